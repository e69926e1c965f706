import Derived.Test.YtpjfdfddcnocpaaDc
import Derived.Test.YtpjfdfddcnocpaaTe
import Derived.Test.YtpjfdfddcnocpaaTm
set_option linter.unusedSimpArgs false
set_option linter.unusedVariables false
namespace Go.Proofs.Ytpjfdfddcnocpaa
open Go.RowKit
attribute [local go_sem] Oper.semAt_some

section
variable (north cols lofts wrong o reach : Int) (east : List Int) (svs : List Sv) (ea sa : Option Addr) (ec sc : Nat) (w : World)
set_option maxRecDepth 100000 in
set_option maxHeartbeats 4000000 in
theorem Within_err (he : IntsAt w ea east) (hs : SvsAt w sa svs) (hl : east.length ≤ 9223372036854775807) (hl2 : svs.length ≤ 9223372036854775807) (hE : ¬ qE north cols lofts wrong east svs (isInB reach 0 100000000) [o] = 0) :
    Calls Try.prog 26 #[.agg #[.int .i64 north, .int .i64 cols, .slice ea east.length ec, .int .i64 lofts, .slice sa svs.length sc, .int .i64 wrong], .int .i64 o, .int .i64 reach] w fun e w' => e = .returned (.tuple #[.slice none 0 0, .slice none 0 0, .int .i64 (qE north cols lofts wrong east svs (isInB reach 0 100000000) [o])]) ∧ G w w' := by
  have HQ := Lib.hid (fun (W : World) (hW : G w W) (g : Nat) (hg : Blk W g 3 #[.int .i64 o]) => question_E north cols lofts wrong east svs ea sa ec sc (isInB reach 0 100000000) [o] (some ⟨g, 0, none⟩) 1 W (he.below hW) (hs.below hW) hl hl2
    (.inr ⟨g, 0, rfl, hg.lt, fun k hk2 => by
      rw [hg.cell]
      match k, hk2 with
      | 0, _ => rfl⟩) (by simp) hE)
  have HIS := Lib.hid (fun (W : World) => isIn_any reach 0 100000000 W)
  generalize qE north cols lofts wrong east svs (isInB reach 0 100000000) [o] = E at *
  generalize isInB reach 0 100000000 = d at *
  have hEb : (E == 0) = false := by simp [hE]
  clear he hs hl hl2 hE
  have hG1 : G w (w.alloc (.cells #[.int .i64 north, .int .i64 cols, .slice ea east.length ec, .int .i64 lofts, .slice sa svs.length sc, .int .i64 wrong] 25)) := (G.rf _).a _
  have B0 := Blk.new w 25 #[.int .i64 north, .int .i64 cols, .slice ea east.length ec, .int .i64 lofts, .slice sa svs.length sc, .int .i64 wrong]
  have m0 := B0.cell 0
  have m1 := B0.cell 1
  have m2 := B0.cell 2
  have m3 := B0.cell 3
  have m4 := B0.cell 4
  have m5 := B0.cell 5
  have l0 := B0.lt
  go_enter Try.func26, Try.ntmps26
  go_wp2_with fail
  clear m0 m1 m2 m3 m4 m5
  refine wp_region_Y (S := fun W' => Blk W' w.heap.size 25 #[.int .i64 north, .int .i64 cols, .slice ea east.length ec, .int .i64 lofts, .slice sa svs.length sc, .int .i64 wrong]) 11 12 rfl (by kernel_rfl) (B0.keep (G.rf _).d) (fun hS => ?_)
  have hGd := hG1.d
  have Bd := B0.keep (G.rf _).d
  refine wpAnyY_take (i := 0) (v := ?_) rfl (by kernel_rfl) (by kernel_rfl) (by kernel_rfl) (by kernel_rfl) (fun _ _ _ h => h) (Or.inl ⟨by kernel_rfl, ?_⟩) (by assumption) ?_
  rotate_left
  · intro w' hSw; have i0 := hSw.cell 0; have i1 := hSw.cell 1; have i2 := hSw.cell 2; have i3 := hSw.cell 3; have i4 := hSw.cell 4; have i5 := hSw.cell 5; go_simp; with_reducible rfl
  try simp only [Act.put, List.setIfInBounds_toArray, List.set_cons_zero, List.set_cons_succ]
  refine wpAnyY_take (i := 1) (v := ?_) rfl (by kernel_rfl) (by kernel_rfl) (by kernel_rfl) (by kernel_rfl) (fun _ _ _ h => h) (Or.inl ⟨by kernel_rfl, ?_⟩) (by assumption) ?_
  rotate_left
  · intro w' hSw; go_simp; with_reducible rfl
  try simp only [Act.put, List.setIfInBounds_toArray, List.set_cons_zero, List.set_cons_succ]
  refine wpAnyY_take (i := 2) (v := ?_) rfl (by kernel_rfl) (by kernel_rfl) (by kernel_rfl) (by kernel_rfl) (fun _ _ _ h => h) (Or.inl ⟨by kernel_rfl, ?_⟩) (by assumption) ?_
  rotate_left
  · intro w' hSw; go_simp; with_reducible rfl
  try simp only [Act.put, List.setIfInBounds_toArray, List.set_cons_zero, List.set_cons_succ]
  refine wpAnyY_take (i := 4) (v := ?_) rfl (by kernel_rfl) (by kernel_rfl) (by kernel_rfl) (by kernel_rfl) (fun _ _ _ h => h) (Or.inl ⟨by kernel_rfl, ?_⟩) (by assumption) ?_
  rotate_left
  · intro w' hSw; go_simp; with_reducible rfl
  try simp only [Act.put, List.setIfInBounds_toArray, List.set_cons_zero, List.set_cons_succ]
  refine wpAnyY_twoSW (i := 3) (j := 5) (by kernel_rfl) rfl rfl (by kernel_rfl) (by kernel_rfl) (fun K3 hK3 => ?_) (fun K5 hK5 => ?_)
  · go_simp
    refine (HIS.out _).mono ?_
    rintro e wa ⟨rfl, hGa⟩
    refine hK3.out _ _ (Bd.keep hGa) (fun hS => ?_)
    try simp only [Act.put, List.setIfInBounds_toArray, List.set_cons_zero, List.set_cons_succ]
    refine wpAnyY_oneSW (i := 5) (by kernel_rfl) rfl (by kernel_rfl) (fun K5 hK5 => ?_)
    go_simp
    refine hK5.out _ _ ((Bd.keep hGa).alloc _) (fun hS => ?_)
    try simp only [Act.put, List.setIfInBounds_toArray, List.set_cons_zero, List.set_cons_succ]
    have hGb : G w (wa.alloc (.cells #[.int .i64 o] 3)) := (hGd.t hGa).a _
    have bg : Blk (wa.alloc (.cells #[.int .i64 o] 3)) wa.heap.size 3 #[.int .i64 o] := Blk.new _ _ _
    have Bb := (Bd.keep hGa).alloc (.cells #[.int .i64 o] 3)
    clear hGa hK3 hK5
    generalize hwb : wa.alloc (.cells #[.int .i64 o] 3) = wb at *
    refine wpAnyY_oneSW (i := 6) (by kernel_rfl) rfl (by kernel_rfl) (fun K6 hK6 => ?_)
    go_simp
    refine (HQ.out _ hGb _ bg).mono ?_
    rintro e w2 ⟨rfl, hGx⟩
    refine hK6.out _ _ (Bb.keep hGx) (fun hS => ?_)
    try simp only [Act.put, List.setIfInBounds_toArray, List.set_cons_zero, List.set_cons_succ]
    refine wpAnyY_take (i := 7) (v := ?_) rfl (by kernel_rfl) (by kernel_rfl) (by kernel_rfl) (by kernel_rfl) (fun _ _ _ h => h) (Or.inl ⟨by kernel_rfl, ?_⟩) (by assumption) ?_
    rotate_left
    · intro w' hSw; go_simp; with_reducible rfl
    try simp only [Act.put, List.setIfInBounds_toArray, List.set_cons_zero, List.set_cons_succ]
    refine wpAnyY_take (i := 8) (v := ?_) rfl (by kernel_rfl) (by kernel_rfl) (by kernel_rfl) (by kernel_rfl) (fun _ _ _ h => h) (Or.inl ⟨by kernel_rfl, ?_⟩) (by assumption) ?_
    rotate_left
    · intro w' hSw; go_simp; with_reducible rfl
    try simp only [Act.put, List.setIfInBounds_toArray, List.set_cons_zero, List.set_cons_succ]
    refine wpAnyY_take (i := 9) (v := ?_) rfl (by kernel_rfl) (by kernel_rfl) (by kernel_rfl) (by kernel_rfl) (fun _ _ _ h => h) (Or.inl ⟨by kernel_rfl, ?_⟩) (by assumption) ?_
    rotate_left
    · intro w' hSw; go_simp; with_reducible rfl
    try simp only [Act.put, List.setIfInBounds_toArray, List.set_cons_zero, List.set_cons_succ]
    refine wpAnyY_take (i := 10) (v := ?_) rfl (by kernel_rfl) (by kernel_rfl) (by kernel_rfl) (by kernel_rfl) (fun _ _ _ h => h) (Or.inl ⟨by kernel_rfl, ?_⟩) (by assumption) ?_
    rotate_left
    · intro w' hSw; go_simp; with_reducible rfl
    try simp only [Act.put, List.setIfInBounds_toArray, List.set_cons_zero, List.set_cons_succ]
    refine wpAnyY_oneW (i := 11) (by kernel_rfl) rfl (by kernel_rfl) (by kernel_rfl) (fun K11 hK11 => ?_)
    go_simp
    refine hK11.out _ _ ?_
    try simp only [Act.put, List.setIfInBounds_toArray, List.set_cons_zero, List.set_cons_succ]
    refine wpAnyY_done (by kernel_rfl) ?_ _
    have hG2 := hGb.t hGx
    clear hS Bb hGx bg hGb Bd hGd HQ hK6 hK11 B0 hG1 l0
    go_wp2
    exact bodyPost_ret (res26 _ _ _ _ _ rfl rfl rfl) rfl ⟨rfl, hG2⟩
  · go_simp
    refine hK5.out _ _ (Bd.alloc _) (fun hS => ?_)
    try simp only [Act.put, List.setIfInBounds_toArray, List.set_cons_zero, List.set_cons_succ]
    refine wpAnyY_oneSW (i := 3) (by kernel_rfl) rfl (by kernel_rfl) (fun K3 hK3 => ?_)
    go_simp
    refine (HIS.out _).mono ?_
    rintro e wb ⟨rfl, hGa⟩
    refine hK3.out _ _ ((Bd.alloc _).keep hGa) (fun hS => ?_)
    try simp only [Act.put, List.setIfInBounds_toArray, List.set_cons_zero, List.set_cons_succ]
    have hGb : G w wb := (hGd.a _).t hGa
    have bg : Blk wb (w.heap.size + 1) 3 #[.int .i64 o] := ((Blk.new1 w (.cells #[.int .i64 north, .int .i64 cols, .slice ea east.length ec, .int .i64 lofts, .slice sa svs.length sc, .int .i64 wrong] 25) 3 #[.int .i64 o]).keep (G.rf _).d).keep hGa
    have Bb := (Bd.alloc _).keep hGa
    refine wpAnyY_oneSW (i := 6) (by kernel_rfl) rfl (by kernel_rfl) (fun K6 hK6 => ?_)
    go_simp
    refine (HQ.out _ hGb _ bg).mono ?_
    rintro e w2 ⟨rfl, hGx⟩
    refine hK6.out _ _ (Bb.keep hGx) (fun hS => ?_)
    try simp only [Act.put, List.setIfInBounds_toArray, List.set_cons_zero, List.set_cons_succ]
    refine wpAnyY_take (i := 7) (v := ?_) rfl (by kernel_rfl) (by kernel_rfl) (by kernel_rfl) (by kernel_rfl) (fun _ _ _ h => h) (Or.inl ⟨by kernel_rfl, ?_⟩) (by assumption) ?_
    rotate_left
    · intro w' hSw; go_simp; with_reducible rfl
    try simp only [Act.put, List.setIfInBounds_toArray, List.set_cons_zero, List.set_cons_succ]
    refine wpAnyY_take (i := 8) (v := ?_) rfl (by kernel_rfl) (by kernel_rfl) (by kernel_rfl) (by kernel_rfl) (fun _ _ _ h => h) (Or.inl ⟨by kernel_rfl, ?_⟩) (by assumption) ?_
    rotate_left
    · intro w' hSw; go_simp; with_reducible rfl
    try simp only [Act.put, List.setIfInBounds_toArray, List.set_cons_zero, List.set_cons_succ]
    refine wpAnyY_take (i := 9) (v := ?_) rfl (by kernel_rfl) (by kernel_rfl) (by kernel_rfl) (by kernel_rfl) (fun _ _ _ h => h) (Or.inl ⟨by kernel_rfl, ?_⟩) (by assumption) ?_
    rotate_left
    · intro w' hSw; go_simp; with_reducible rfl
    try simp only [Act.put, List.setIfInBounds_toArray, List.set_cons_zero, List.set_cons_succ]
    refine wpAnyY_take (i := 10) (v := ?_) rfl (by kernel_rfl) (by kernel_rfl) (by kernel_rfl) (by kernel_rfl) (fun _ _ _ h => h) (Or.inl ⟨by kernel_rfl, ?_⟩) (by assumption) ?_
    rotate_left
    · intro w' hSw; go_simp; with_reducible rfl
    try simp only [Act.put, List.setIfInBounds_toArray, List.set_cons_zero, List.set_cons_succ]
    refine wpAnyY_oneW (i := 11) (by kernel_rfl) rfl (by kernel_rfl) (by kernel_rfl) (fun K11 hK11 => ?_)
    go_simp
    refine hK11.out _ _ ?_
    try simp only [Act.put, List.setIfInBounds_toArray, List.set_cons_zero, List.set_cons_succ]
    refine wpAnyY_done (by kernel_rfl) ?_ _
    have hG2 := hGb.t hGx
    clear hS Bb hGx bg hGb Bd hGd HQ hK6 hK11 B0 hG1 l0
    go_wp2
    exact bodyPost_ret (res26 _ _ _ _ _ rfl rfl rfl) rfl ⟨rfl, hG2⟩
theorem checkE_ne3 : ¬ checkE north cols east lofts svs wrong = 3 := by
  unfold checkE
  split
  · omega
  · split
    · omega
    · split <;> omega
/-- the error of the reference's Within -/
theorem qE_within : qE north cols lofts wrong east svs (isInB reach 0 100000000) [o] = if ¬ ctE north cols lofts wrong east svs o o 0 = 0 ∧ ¬ ctE north cols lofts wrong east svs o o 0 = 3 then ctE north cols lofts wrong east svs o o 0 else if isInB reach 0 100000000 = false then 1 else ctE north cols lofts wrong east svs o o 0 := by
  have h3 := checkE_ne3 north cols lofts wrong east svs
  rw [ctE_q]
  unfold qE
  rw [show isInB 0 0 2 = true by rfl]
  simp only [List.all_cons, List.all_nil, Bool.and_true, Bool.true_and, Bool.and_self]
  generalize checkE north cols east lofts svs wrong = C at *
  cases isInB reach 0 100000000 <;> cases isInB o 0 (lofts - 1) <;> by_cases hC : C = 0 <;> by_cases hw : wrong < fewSum north cols.toNat east svs lofts.toNat <;> simp [hC, hw, h3]
set_option maxHeartbeats 4000000 in
theorem rWithin_err (he : IntsAt w ea east) (hs : SvsAt w sa svs) (hl : east.length ≤ 9223372036854775807) (hl2 : svs.length ≤ 9223372036854775807) (hE : ¬ qE north cols lofts wrong east svs (isInB reach 0 100000000) [o] = 0) :
    Calls Try.prog 46 #[.agg #[.int .i64 north, .int .i64 cols, .slice ea east.length ec, .int .i64 lofts, .slice sa svs.length sc, .int .i64 wrong], .int .i64 o, .int .i64 reach] w fun e w' => e = .returned (.tuple #[.slice none 0 0, .slice none 0 0, .int .i64 (qE north cols lofts wrong east svs (isInB reach 0 100000000) [o])]) ∧ G w w' := by
  rw [qE_within] at hE ⊢
  have HT := Lib.hid (fun (W : World) (hW : G w W) => rCheckTruth_any north cols lofts wrong o o 0 east svs ea sa ec sc W (he.below hW) (hs.below hW) hl hl2)
  have HIS := Lib.hid (fun (W : World) => within_any reach 0 100000000 W)
  have g0 : G w (w.alloc (.cells #[.int .i64 north, .int .i64 cols, .slice ea east.length ec, .int .i64 lofts, .slice sa svs.length sc, .int .i64 wrong] 25)) := (G.rf _).a _
  generalize ctE north cols lofts wrong east svs o o 0 = C at *
  generalize isInB reach 0 100000000 = d at *
  clear he hs hl hl2
  by_cases h0 : C = 0
  · subst h0
    cases d
    · clear hE
      rw [if_neg (by simp), if_pos rfl]
      go_enter Try.func46, Try.ntmps46
      go_wp2_with (first | (go_at_call 74; refine (HT.out _ g0).mono ?_; rintro e w1 ⟨rfl, hG1⟩; replace g0 := g0.t hG1; clear hG1) | (go_at_call 51; refine (HIS.out _).mono ?_; rintro e w2 ⟨rfl, hG1⟩; replace g0 := g0.t hG1; clear hG1))
      go_ret3
      exact ⟨rfl, g0⟩
    · rw [if_neg (by simp), if_neg (by simp)] at hE
      exact absurd rfl hE
  · have hb0 : (C == 0) = false := by simp [h0]
    by_cases h3 : C = 3
    · subst h3
      cases d
      · clear hE
        rw [if_neg (by simp), if_pos rfl]
        go_enter Try.func46, Try.ntmps46
        go_wp2_with (first | (go_at_call 74; refine (HT.out _ g0).mono ?_; rintro e w1 ⟨rfl, hG1⟩; replace g0 := g0.t hG1; clear hG1) | (go_at_call 51; refine (HIS.out _).mono ?_; rintro e w2 ⟨rfl, hG1⟩; replace g0 := g0.t hG1; clear hG1))
        go_ret3
        exact ⟨rfl, g0⟩
      · clear hE
        rw [if_neg (by simp), if_neg (by simp)]
        go_enter Try.func46, Try.ntmps46
        go_wp2_with (first | (go_at_call 74; refine (HT.out _ g0).mono ?_; rintro e w1 ⟨rfl, hG1⟩; replace g0 := g0.t hG1; clear hG1) | (go_at_call 51; refine (HIS.out _).mono ?_; rintro e w2 ⟨rfl, hG1⟩; replace g0 := g0.t hG1; clear hG1))
        go_ret3
        exact ⟨rfl, g0⟩
    · have hb3 : (C == 3) = false := by simp [h3]
      have hbb : (C != 0 && C != 3) = true := by simp [h0, h3]
      clear hE
      rw [if_pos ⟨h0, h3⟩]
      go_enter Try.func46, Try.ntmps46
      go_wp2_with (first | (go_at_call 74; refine (HT.out _ g0).mono ?_; rintro e w1 ⟨rfl, hG1⟩; replace g0 := g0.t hG1; clear hG1) | (go_at_call 51; refine (HIS.out _).mono ?_; rintro e w2 ⟨rfl, hG1⟩; replace g0 := g0.t hG1; clear hG1))
      go_ret3
      exact ⟨rfl, g0⟩
end
section
variable (north wrong reach : Int) (cols lofts o : Nat) (east : List Int) (svs : List Sv) (ea sa : Option Addr) (ec sc : Nat) (w : World)
set_option maxRecDepth 100000 in
set_option maxHeartbeats 4000000 in
theorem rWithin_ok (he : IntsAt w ea east) (hs : SvsAt w sa svs) (hq : qE north cols lofts wrong east svs (isInB reach 0 100000000) [(o : Int)] = 0)
    (lo hi : Nat → Nat) (hlo : ∀ j, j < lofts → lo j = rnd 0 (loQ north east o j (truthsOf (spotsOf north cols east svs) [o, j] (wrong - fewSum north cols east svs lofts))).toNat)
    (hhi : ∀ j, j < lofts → hi j = rnd 0 (hiQ north east o j (truthsOf (spotsOf north cols east svs) [o, j] (wrong - fewSum north cols east svs lofts))).toNat) :
    Calls Try.prog 46 #[.agg #[.int .i64 north, .int .i64 cols, .slice ea east.length ec, .int .i64 lofts, .slice sa svs.length sc, .int .i64 wrong], .int .i64 o, .int .i64 reach] w (WithinPost w (selW (wk o reach lo hi) 1 lofts) (selW (wk o reach lo hi) 2 lofts)) := by
  obtain ⟨hk, hr, hls, hw⟩ := qE_zero north cols lofts wrong east svs hq
  have hv := checkE_ok hk
  have hvb := vm_bounds hv
  have hl16 := (checkE_zero hk).2.1
  have ho := hls o (by simp)
  have hT := fun (W : World) (hW : G w W) => rCheckTruth_any north cols lofts wrong o o 0 east svs ea sa ec sc W (he.below hW) (hs.below hW) (by omega) (by omega)
  have hct : ctE north cols lofts wrong east svs o o 0 = 0 := by
    unfold ctE
    rw [if_pos hk, if_pos (by simp [isInB]; omega)]
    simpa using hw
  rw [hct] at hT
  have HT := Lib.hid hT
  have hIS := fun (W : World) => within_any reach 0 100000000 W
  rw [hr] at hIS
  have HIS := Lib.hid hIS
  have HDI : Hid (∀ (W : World), G w W → ∀ (j : Nat), j < lofts →
      Calls Try.prog 44 #[.agg #[.int .i64 north, .int .i64 cols, .slice ea east.length ec, .int .i64 lofts, .slice sa svs.length sc, .int .i64 wrong], .int .i64 o, .int .i64 j, .int .i64 0] W fun e w' => e = .returned (.tuple #[.agg #[.int .i64 (lo j : Nat), .int .i64 (hi j : Nat)], .int .i64 0]) ∧ G W w') := fun W hW j hj => by
    rw [hlo j hj, hhi j hj]
    have h := rDist_any north cols lofts wrong east svs ea sa ec sc o j 0 W (he.below hW) (hs.below hW) (by omega) (by omega)
    have hq2 : qE north cols lofts wrong east svs (isInB 0 0 2) [(o : Int), (j : Int)] = 0 := by
      rw [← ctE_q]
      unfold ctE
      rw [if_pos hk, if_pos (by simp [isInB]; omega)]
      simpa using hw
    rw [dst_val hq2] at h
    exact h
  obtain ⟨f, hf⟩ : ∃ f, f = wk o reach lo hi := ⟨_, rfl⟩
  rw [← hf]
  have HF : Hid (∀ j, f j = wk o reach lo hi j) := fun j => by rw [hf]
  have HP : Hid (∀ w' v1 v2, w'.ownsRow w.heap.size 3 1 v1 (selW f 1 lofts).length (natV (selW f 1 lofts)) → w'.ownsRow w.heap.size 3 1 v2 (selW f 2 lofts).length (natV (selW f 2 lofts)) → G w w' → WithinPost w (selW f 1 lofts) (selW f 2 lofts) (.returned (.tuple #[v1, v2, .int .i64 0])) w') := fun w' v1 v2 h1 h2 h3 => ⟨v1, v2, rfl, h1, h2, h3⟩
  generalize WithinPost w (selW f 1 lofts) (selW f 2 lofts) = PP at *
  have hl8 : lofts ≤ 8 := by omega
  clear hT hIS hct hlo hhi hf hv hk hvb hq hr hls hw ho he hs hl16
  have g0 : G w (w.alloc (.cells #[.int .i64 north, .int .i64 cols, .slice ea east.length ec, .int .i64 lofts, .slice sa svs.length sc, .int .i64 wrong] 25)) := (G.rf _).a _
  have b0 := Blk.new w 25 #[.int .i64 north, .int .i64 cols, .slice ea east.length ec, .int .i64 lofts, .slice sa svs.length sc, .int .i64 wrong]
  go_enter Try.func46, Try.ntmps46
  go_wp2_with (first | (go_at_call 74; refine (HT.out _ g0).mono ?_; rintro e w1 ⟨rfl, hG1⟩; replace g0 := g0.t hG1; replace b0 := b0.keep hG1; clear hG1) | (go_at_call 51; refine (HIS.out _).mono ?_; rintro e w2 ⟨rfl, hG1⟩; have hG2 := g0.t hG1; have b2 := b0.keep hG1; clear hG1 b0 g0))
  obtain ⟨i0, hi0, hz0, hz1, hz2⟩ := info_parts info3
  go_loopw [6, 7, 9] (fun s m i wr => ∃ k : Nat, k ≤ lofts ∧ i = .int .i64 k ∧ wr.ownsRow w2.heap.size 3 1 s (selW f 1 k).length (natV (selW f 1 k)) ∧ wr.ownsRow w2.heap.size 3 1 m (selW f 2 k).length (natV (selW f 2 k)) ∧ Hid (apart s m) ∧ G w2 wr) (fun _ _ i _ => lofts - (intOf i).toNat)
  case atStart => exact ⟨0, Nat.zero_le _, rfl, World.ownsRow_nil _ _ _ _, World.ownsRow_nil _ _ _ _, (fun g h _ => by cases h), G.rf _⟩
  case round =>
    obtain ⟨k, hk, rfl, hown1, hown2, hap, hGr⟩ := hrel
    have b3 := b2.keep hGr
    have m0 := b3.cell 0
    have m1 := b3.cell 1
    have m2 := b3.cell 2
    have m3 := b3.cell 3
    have m4 := b3.cell 4
    have m5 := b3.cell 5
    have lM := b3.lt
    have HO1 := Lib.hid hown1
    have HO2 := Lib.hid hown2
    clear hown1 hown2
    have hl1 := selW_len f 1 k
    have hl2 := selW_len f 2 k
    by_cases hlt : k < lofts
    · have hki : (k : Int) < lofts := by omega
      have HD := Lib.hid (HDI.out wr (hG2.t hGr) k hlt)
      have hfk := HF.out k
      have hs1 := selW_succ f 1 k
      have hs2 := selW_succ f 2 k
      by_cases hko : k = o
      · have hkob : ((k : Int) == o) = true := by simp [hko]
        have hf0 : f k = 0 := by rw [hfk]; unfold wk; rw [if_pos hko]
        rw [hf0, if_neg (by omega)] at hs1 hs2
        have HS1 := Lib.hid hs1
        have HS2 := Lib.hid hs2
        clear hs1 hs2 hfk hf0 hko
        go_wp2_with (go_at_call 44; refine (HD.out).mono ?_; rintro e w3 ⟨rfl, hG3⟩; clear m0 m1 m2 m3 m4 m5 lM)
        go_roundw
        case rel => exact ⟨k + 1, by omega, by go_num, by rw [HS1.out]; exact own_G HO1.out (hG3.a _), by rw [HS2.out]; exact own_G HO2.out (hG3.a _), hap, (hGr.t hG3).a _⟩
        case measure => simp [intOf]; omega
      · have hkob : ((k : Int) == o) = false := by simp; omega
        by_cases h1 : (hi k : Int) ≤ reach
        · have hf1 : f k = 1 := by rw [hfk]; unfold wk; rw [if_neg hko, if_pos h1]
          rw [hf1] at hs1 hs2
          rw [if_pos rfl] at hs1
          rw [if_neg (by omega)] at hs2
          have HS1 := Lib.hid hs1
          have HS2 := Lib.hid hs2
          clear hs1 hs2 hfk hf1 hko
          go_wp2_with (first | (go_at_call 44; refine (HD.out).mono ?_; rintro e w3 ⟨rfl, hG3⟩; clear m0 m1 m2 m3 m4 m5 lM) | (at_builtin; refine wpList_append_own_at _ rfl _ _ 22 rfl w2.heap.size 3 i0 (.int .i64 0) 1 8 Try.underlying22 hi0 hz0 hz1 hz2 rfl (by decide) _ (selW f 1 k).length (natV (selW f 1 k)) rfl ?hown ⟨_, 0, none⟩ 1 1 [.int .i64 k] rfl rfl ?hcell (by simp [Value.oneCell']) (by unfold maxLen; omega) (by omega) ?hbase ?hrest))
          case hown => exact own_G (own_G HO1.out hG3) (((G.rf _).a _).a _)
          case hcell =>
            have hh := cell_one_new (w3.alloc (.cells #[.int .i64 (lo k : Nat), .int .i64 (hi k : Nat)] 46)) 3 (.int .i64 k)
            rw [show (w3.alloc (.cells #[.int .i64 (lo k : Nat), .int .i64 (hi k : Nat)] 46)).heap.size = w3.heap.size + 1 by simp] at hh
            exact hh
          case hbase => exact (((hGr.t hG3).a _).a _).size
          case hrest =>
            intro v' w4 hown' hg4 hnil4 hat4
            have gX : G w3 ((w3.alloc (.cells #[.int .i64 (lo k : Nat), .int .i64 (hi k : Nat)] 46)).alloc (.cells #[.int .i64 k] 3)) := ((G.rf _).a _).a _
            obtain ⟨y1, y2, y3⟩ := within_grow ((hGr.t hG3).t gX) (own_G (own_G HO1.out hG3) gX) (own_G (own_G HO2.out hG3) gX) hap hg4 (by simp) hat4
            have HN := Lib.hid hown'
            have HY1 := Lib.hid y1
            have HY2 := Lib.hid y2
            have HY3 := Lib.hid y3
            clear hown' hg4 hnil4 hat4 y1 y2 y3 gX
            go_wp2
            go_roundw
            case rel => exact ⟨k + 1, by omega, by go_num, by rw [HS1.out]; simpa [natV] using HN.out, by rw [HS2.out]; exact HY1.out, HY2.out, HY3.out⟩
            case measure => simp [intOf]; omega
        · by_cases h2 : (lo k : Int) ≤ reach
          · have hf1 : f k = 2 := by rw [hfk]; unfold wk; rw [if_neg hko, if_neg h1, if_pos h2]
            rw [hf1] at hs1 hs2
            rw [if_neg (by omega)] at hs1
            rw [if_pos rfl] at hs2
            have HS1 := Lib.hid hs1
            have HS2 := Lib.hid hs2
            clear hs1 hs2 hfk hf1 hko
            go_wp2_with (first | (go_at_call 44; refine (HD.out).mono ?_; rintro e w3 ⟨rfl, hG3⟩; clear m0 m1 m2 m3 m4 m5 lM) | (at_builtin; refine wpList_append_own_at _ rfl _ _ 22 rfl w2.heap.size 3 i0 (.int .i64 0) 1 8 Try.underlying22 hi0 hz0 hz1 hz2 rfl (by decide) _ (selW f 2 k).length (natV (selW f 2 k)) rfl ?hown ⟨_, 0, none⟩ 1 1 [.int .i64 k] rfl rfl ?hcell (by simp [Value.oneCell']) (by unfold maxLen; omega) (by omega) ?hbase ?hrest))
            case hown => exact own_G (own_G HO2.out hG3) (((G.rf _).a _).a _)
            case hcell =>
              have hh := cell_one_new (w3.alloc (.cells #[.int .i64 (lo k : Nat), .int .i64 (hi k : Nat)] 46)) 3 (.int .i64 k)
              rw [show (w3.alloc (.cells #[.int .i64 (lo k : Nat), .int .i64 (hi k : Nat)] 46)).heap.size = w3.heap.size + 1 by simp] at hh
              exact hh
            case hbase => exact (((hGr.t hG3).a _).a _).size
            case hrest =>
              intro v' w4 hown' hg4 hnil4 hat4
              have gX : G w3 ((w3.alloc (.cells #[.int .i64 (lo k : Nat), .int .i64 (hi k : Nat)] 46)).alloc (.cells #[.int .i64 k] 3)) := ((G.rf _).a _).a _
              obtain ⟨y1, y2, y3⟩ := within_grow ((hGr.t hG3).t gX) (own_G (own_G HO2.out hG3) gX) (own_G (own_G HO1.out hG3) gX) (apart.symm hap) hg4 (by simp) hat4
              have HN := Lib.hid hown'
              have HY1 := Lib.hid y1
              have HY2 := Lib.hid y2
              have HY3 := Lib.hid y3
              clear hown' hg4 hnil4 hat4 y1 y2 y3 gX
              go_wp2
              go_roundw
              case rel => exact ⟨k + 1, by omega, by go_num, by rw [HS1.out]; exact HY1.out, by rw [HS2.out]; simpa [natV] using HN.out, (HY2.out).symm, HY3.out⟩
              case measure => simp [intOf]; omega
          · have hf1 : f k = 0 := by rw [hfk]; unfold wk; rw [if_neg hko, if_neg h1, if_neg h2]
            rw [hf1, if_neg (by omega)] at hs1 hs2
            have HS1 := Lib.hid hs1
            have HS2 := Lib.hid hs2
            clear hs1 hs2 hfk hf1 hko
            go_wp2_with (go_at_call 44; refine (HD.out).mono ?_; rintro e w3 ⟨rfl, hG3⟩; clear m0 m1 m2 m3 m4 m5 lM)
            go_roundw
            case rel => exact ⟨k + 1, by omega, by go_num, by rw [HS1.out]; exact own_G HO1.out (hG3.a _), by rw [HS2.out]; exact own_G HO2.out (hG3.a _), hap, (hGr.t hG3).a _⟩
            case measure => simp [intOf]; omega
    · obtain rfl : k = lofts := by omega
      have hki : ¬ ((k : Nat) : Int) < k := by omega
      have HFn := Lib.hid (HP.out wr _ _ (own_weaken HO1.out hG2.size) (own_weaken HO2.out hG2.size) (hG2.t hGr))
      go_wp2
      go_ret3
      exact HFn.out
end
/-- the two lists of Within as arguments, with its error -/
def LwP (w : World) (E : Int) (A B : List Int) (e : Ending) (w' : World) : Prop := ∃ (a b : Option Addr) (ca cb : Nat), e = .returned (.tuple #[.slice a A.length ca, .slice b B.length cb, .int .i64 E]) ∧ IntsAt w' a A ∧ IntsAt w' b B ∧ G w w'
theorem withins (north cols lofts wrong o reach : Int) (east : List Int) (svs : List Sv) : ∃ (E : Int) (A B : List Int), A.length ≤ 1000000 ∧ B.length ≤ 1000000 ∧
    (∀ (W : World) (ea sa : Option Addr) (ec sc : Nat), IntsAt W ea east → SvsAt W sa svs → east.length ≤ 100 → svs.length ≤ 100 → Calls Try.prog 26 #[.agg #[.int .i64 north, .int .i64 cols, .slice ea east.length ec, .int .i64 lofts, .slice sa svs.length sc, .int .i64 wrong], .int .i64 o, .int .i64 reach] W (LwP W E A B)) ∧
    (∀ (W : World) (ea sa : Option Addr) (ec sc : Nat), IntsAt W ea east → SvsAt W sa svs → east.length ≤ 100 → svs.length ≤ 100 → Calls Try.prog 46 #[.agg #[.int .i64 north, .int .i64 cols, .slice ea east.length ec, .int .i64 lofts, .slice sa svs.length sc, .int .i64 wrong], .int .i64 o, .int .i64 reach] W (LwP W E A B)) := by
  by_cases hq : qE north cols lofts wrong east svs (isInB reach 0 100000000) [o] = 0
  · obtain ⟨hk, hr, hls, hw⟩ := qE_zero north cols lofts wrong east svs hq
    have hvb := vm_bounds (checkE_ok hk)
    have ho := hls o (by simp)
    obtain ⟨cn, rfl⟩ := Int.eq_ofNat_of_zero_le (show 0 ≤ cols by omega)
    obtain ⟨ln, rfl⟩ := Int.eq_ofNat_of_zero_le (show 0 ≤ lofts by omega)
    obtain ⟨on, rfl⟩ := Int.eq_ofNat_of_zero_le ho.1
    have hrr : 0 ≤ reach ∧ reach ≤ 100000000 := by simp [isInB] at hr; omega
    obtain ⟨lo, hlo⟩ : ∃ lo : Nat → Nat, ∀ j, j < ln → lo j = rnd 0 (loQ north east on j (truthsOf (spotsOf north cn east svs) [on, j] (wrong - fewSum north cn east svs ln))).toNat := ⟨fun j => _, fun j _ => rfl⟩
    obtain ⟨hi, hhi⟩ : ∃ hi : Nat → Nat, ∀ j, j < ln → hi j = rnd 0 (hiQ north east on j (truthsOf (spotsOf north cn east svs) [on, j] (wrong - fewSum north cn east svs ln))).toNat := ⟨fun j => _, fun j _ => rfl⟩
    have hA := selW_len (wk on reach lo hi) 1 ln
    have hB := selW_len (wk on reach lo hi) 2 ln
    have key : ∀ (W : World) (e : Ending) (w' : World), WithinPost W (selW (wk on reach lo hi) 1 ln) (selW (wk on reach lo hi) 2 ln) e w' → LwP W 0 ((selW (wk on reach lo hi) 1 ln).map fun n : Nat => (n : Int)) ((selW (wk on reach lo hi) 2 ln).map fun n : Nat => (n : Int)) e w' := by
      rintro W e w' ⟨v1, v2, rfl, h1, h2, hG⟩
      obtain ⟨a, ca, rfl, hIa⟩ := ints_own rfl h1
      obtain ⟨b, cb, rfl, hIb⟩ := ints_own rfl h2
      exact ⟨a, b, ca, cb, rfl, hIa, hIb, hG⟩
    exact ⟨0, _, _, by rw [List.length_map]; omega, by rw [List.length_map]; omega, fun W ea sa ec sc he hs _ _ => (Within_ok north wrong reach cn ln on east svs ea sa ec sc W he hs hk hw (by omega) hrr lo hi hlo hhi).mono (key W), fun W ea sa ec sc he hs _ _ => (rWithin_ok north wrong reach cn ln on east svs ea sa ec sc W he hs hq lo hi hlo hhi).mono (key W)⟩
  · refine ⟨qE north cols lofts wrong east svs (isInB reach 0 100000000) [o], [], [], by simp, by simp, fun W ea sa ec sc he hs h1 h2 => (Within_err north cols lofts wrong o reach east svs ea sa ec sc W he hs (by omega) (by omega) hq).mono ?_, fun W ea sa ec sc he hs h1 h2 => (rWithin_err north cols lofts wrong o reach east svs ea sa ec sc W he hs (by omega) (by omega) hq).mono ?_⟩
    · rintro e w' ⟨rfl, hG⟩
      exact ⟨none, none, 0, 0, rfl, .inl rfl, .inl rfl, hG⟩
    · rintro e w' ⟨rfl, hG⟩
      exact ⟨none, none, 0, 0, rfl, .inl rfl, .inl rfl, hG⟩
end Go.Proofs.Ytpjfdfddcnocpaa
