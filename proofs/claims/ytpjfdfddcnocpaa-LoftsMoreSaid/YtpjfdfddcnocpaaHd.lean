import Derived.Test.YtpjfdfddcnocpaaHc
set_option linter.unusedSimpArgs false
set_option linter.unusedVariables false
namespace Go.Proofs.Ytpjfdfddcnocpaa
open Go.RowKit
attribute [local go_sem] Oper.semAt_some

theorem Blk.ne {W : World} {g g' : Nat} {t t' : TypeId} {c c' : Array Value} (h : Blk W g t c) (k : Blk W g' t' c') (ht : t ≠ t') : g ≠ g' := fun e => by
  subst e
  unfold Blk at h k
  rw [h] at k
  injection k with k
  injection k with k1 k2
  exact ht k2
theorem svCells_take (svs : List Sv) (k : Nat) : (svCells svs).take (k * 10) = svCells (svs.take k) := by
  conv => lhs; rw [← List.take_append_drop k svs, svCells_app]
  by_cases h : k ≤ svs.length
  · rw [List.take_append_of_le_length (by rw [svCells_len, List.length_take]; omega), List.take_of_length_le (by rw [svCells_len, List.length_take]; omega)]
  · rw [List.drop_eq_nil_of_le (by omega), show svCells [] = [] from rfl, List.append_nil, List.take_of_length_le (by rw [svCells_len, List.length_take]; omega)]
theorem OwnSv.row {W : World} {g cap base : Nat} {cur : Array Value} {svs : List Sv} (h : OwnSv W g cap cur svs) (hb : base ≤ g) (k : Nat) (hk : k ≤ svs.length) : W.ownsRow base 56 10 (.slice (some ⟨g, 0, none⟩) k cap) k (svCells (svs.take k)) := by
  obtain ⟨h1, h2, h3, h4, h5⟩ := h
  refine ⟨by rw [svCells_len, List.length_take]; omega, .inr ⟨g, cap, cur, rfl, hb, h1, by omega, h3, h4, ?_⟩⟩
  rw [← svCells_take, ← h5, List.take_take, Nat.min_eq_left (by omega)]
/-- surveys that are owned can be read -/
theorem svs_of_own {W : World} {base k : Nat} {v : Value} {l : List Sv} (h : W.ownsRow base 56 10 v k (svCells l)) (hk : k = l.length) : ∃ sa sc, v = .slice sa l.length sc ∧ SvsAt W sa l ∧ (sa = none → sc = 0) := by
  subst hk
  rcases h.2 with ⟨rfl, h0⟩ | ⟨g, cap, cur, rfl, _, hb, h1, h2, h3, h4⟩
  · exact ⟨none, 0, by rw [h0], .inl (List.eq_nil_of_length_eq_zero h0), fun _ => rfl⟩
  · exact ⟨_, _, rfl, OwnSv.at (cap := cap) (cur := cur) ⟨hb, h1, h2, h3, h4⟩, fun h => by cases h⟩
theorem svs_at_own {W : World} {base k n sc : Nat} {sa : Option Addr} {l : List Sv} (h : W.ownsRow base 56 10 (.slice sa n sc) k (svCells l)) (hk : k = l.length) : SvsAt W sa l := by
  obtain ⟨sa', sc', e, h2, _⟩ := svs_of_own h hk
  cases e
  exact h2
theorem checkE_sub {north cols lofts wrong : Int} {east : List Int} {svs svs' : List Sv} (h : checkE north cols east lofts svs wrong = 0) (hl : svs'.length ≤ 16) (hs : ∀ s ∈ svs', s ∈ svs) : checkE north cols east lofts svs' wrong = 0 := by
  obtain ⟨hv, hl2, hso⟩ := checkE_zero h
  unfold checkE
  rw [if_neg (by rw [hv]; simp), if_neg (by omega), if_pos]
  rw [List.all_eq_true] at hso ⊢
  exact fun s hx => hso s (hs s hx)

section
variable (north wrong : Int) (cols lofts : Nat) (east : List Int) (svs : List Sv) (ea sa : Option Addr) (ec sc : Nat) (w : World)
set_option maxRecDepth 100000 in
set_option maxHeartbeats 4000000 in
theorem liars_3 (i : Nat) (he : IntsAt w ea east) (hs : SvsAt w sa svs) (hn : sa = none → sc = 0) (hsc : svs.length ≤ sc) (hl : east.length ≤ 9223372036854775807) (hl2 : svs.length ≤ 9223372036854775807) (hv : validB north cols east lofts svs wrong = true) (hk : checkE north cols east lofts svs wrong = 0) (ht : i < svs.length) : LiarsGoal north wrong east svs ea sa ec sc w cols lofts i := by
  obtain ⟨g0, b0⟩ := w1_spec w #[.int .i64 north, .int .i64 cols, .slice ea east.length ec, .int .i64 lofts, .slice sa svs.length sc, .int .i64 wrong] 25
  have hvb := vm_bounds (checkE_ok hk)
  have hV := fun (W : World) (hW : G w W) => valid_any north cols lofts wrong east svs ea sa ec sc W (he.below hW) (hs.below hW) hl hl2
  rw [hv] at hV
  have HV := Lib.hid hV
  have HF := Lib.hid (fun (W : World) (hW : G w W) => Fewest_ok north wrong cols lofts east svs ea sa ec sc W (he.below hW) (hs.below hW) hk)
  have hfl := fewSum_len north cols east svs lofts (by omega) (by omega)
  obtain ⟨fv, hfv, hB⟩ := Blame_any north wrong cols lofts east svs ea sa ec sc w he hs hk
  have hsl := (checkE_zero hk).2.1
  have HCp := Lib.hid (fun (W : World) (hW : G w W) => Copy_full north cols lofts wrong east svs ea sa ec sc W (he.below hW) (hs.below hW) (by omega) (by omega) (by omega) hn)
  have HFE := Lib.hid (few_erase north cols lofts east svs i ht (by omega) (by omega))
  generalize hF : fewSum north cols east svs lofts = F at *
  have HB := Lib.hid hB
  have HK := Lib.hid hk
  clear hB hV hvb hk hF
  have hF0 : ¬ (F : Int) < 0 := by omega
  have hfl' : ¬ svs.length < F := by omega
  unfold LiarsGoal
  rcases hfv with ⟨rfl, hw⟩ | ⟨rfl, hw⟩
  · have hw1 : decide ((F : Int) ≤ wrong) = true := by simp; omega
    go_enter Try.func9, Try.ntmps9
    go_wp2_with (first | (go_at_call 19; refine (HV.out _ g0).mono ?_; rintro e w1 ⟨rfl, hG1⟩; replace b0 := b0.keep hG1; replace g0 := g0.t hG1; clear hG1; have m0 := b0.cell 0; have m1 := b0.cell 1; have m2 := b0.cell 2; have m3 := b0.cell 3; have m4 := b0.cell 4; have m5 := b0.cell 5) | (go_at_call 31; refine (HF.out _ g0).mono ?_; rintro e w2 ⟨rfl, hG1⟩; replace b0 := b0.keep hG1; replace g0 := g0.t hG1; clear hG1 m0 m1 m2 m3 m4 m5; have m0 := b0.cell 0; have m1 := b0.cell 1; have m2 := b0.cell 2; have m3 := b0.cell 3; have m4 := b0.cell 4; have m5 := b0.cell 5) | (go_at_call 32; refine (HB.out _ g0).mono ?_; rintro e w3 ⟨lv, ll, lc, rfl, hll, hG1⟩; replace b0 := b0.keep hG1; replace g0 := g0.t hG1; clear hG1 m0 m1 m2 m3 m4 m5; have m0 := b0.cell 0; have m1 := b0.cell 1; have m2 := b0.cell 2; have m3 := b0.cell 3; have m4 := b0.cell 4; have m5 := b0.cell 5; have hll' : ¬ wrong < (ll : Int) := by omega) | (go_at_call 28; refine (HCp.out _ g0).mono ?_; rintro e w4 ⟨gE, capE, curE, gS, capS, curS, rfl, hgE, bE, hcE, hG1, hgS, bS⟩; have lb := b0.lt; replace b0 := b0.keep hG1; replace g0 := g0.t hG1; clear hG1 m0 m1 m2 m3 m4 m5; have m4 := b0.cell 4; have lb4 := b0.lt))
    obtain ⟨N, hN⟩ : ∃ N, N = w4.heap.size := ⟨_, rfl⟩
    rw [← hN]
    have b5 := b0.alloc (.cells #[.int .i64 north, .int .i64 cols, .slice (some ⟨gE, 0, none⟩) east.length capE, .int .i64 lofts, .slice (some ⟨gS, 0, none⟩) svs.length capS, .int .i64 wrong] 25)
    have bO : Blk (w4.alloc (.cells #[.int .i64 north, .int .i64 cols, .slice (some ⟨gE, 0, none⟩) east.length capE, .int .i64 lofts, .slice (some ⟨gS, 0, none⟩) svs.length capS, .int .i64 wrong] 25)) N 25 _ := Blk.newAt hN.symm _ _
    have g5 := g0.a (.cells #[.int .i64 north, .int .i64 cols, .slice (some ⟨gE, 0, none⟩) east.length capE, .int .i64 lofts, .slice (some ⟨gS, 0, none⟩) svs.length capS, .int .i64 wrong] 25)
    have bE5 := bE.alloc (.cells #[.int .i64 north, .int .i64 cols, .slice (some ⟨gE, 0, none⟩) east.length capE, .int .i64 lofts, .slice (some ⟨gS, 0, none⟩) svs.length capS, .int .i64 wrong] 25)
    have bS5 := bS.keep ((G.rf w4).a (.cells #[.int .i64 north, .int .i64 cols, .slice (some ⟨gE, 0, none⟩) east.length capE, .int .i64 lofts, .slice (some ⟨gS, 0, none⟩) svs.length capS, .int .i64 wrong] 25))
    generalize w4.alloc (.cells #[.int .i64 north, .int .i64 cols, .slice (some ⟨gE, 0, none⟩) east.length capE, .int .i64 lofts, .slice (some ⟨gS, 0, none⟩) svs.length capS, .int .i64 wrong] 25) = W5 at *
    have HNN := Lib.hid hN
    clear m4 hN b0 g0 bE bS
    have hcS : i ≤ capS := by have := bS5.2.1; omega
    rcases hs with rfl | ⟨b, off, rfl, hbb, hcc⟩
    · simp at ht
    have e1 : IntKind.i64.wrap ((i : Int) + 1) = ((i + 1 : Nat) : Int) := by rw [IntWalk.i64_in _ (by omega)]; rfl
    obtain ⟨sad, hsad, hnews⟩ : ∃ ad : Addr, (if sc = i + 1 then some (⟨b, off, none⟩ : Addr) else some ⟨b, off + (i + 1) * 10, none⟩) = some ad ∧ ∀ W, G w W → ∀ j u, (svCells (svs.drop (i + 1)))[j]? = some u → W.cell? (ad.add j) = some u := by
      by_cases h : sc = i + 1
      · exact ⟨_, if_pos h, fun W hW j u hj => by rw [List.drop_eq_nil_of_le (by omega)] at hj; simp [svCells] at hj⟩
      · exact ⟨_, if_neg h, fun W hW => src_at hbb hcc W hW (i + 1)⟩
    have E1 := Lib.hid e1
    have HSA := Lib.hid hsad
    have HNW := Lib.hid hnews
    clear e1 hsad hnews
    refine wp_region_Y (S := fun W' => Blk W' w.heap.size 25 #[.int .i64 north, .int .i64 cols, .slice ea east.length ec, .int .i64 lofts, .slice (some ⟨b, off, none⟩) svs.length sc, .int .i64 wrong] ∧ Blk W' N 25 #[.int .i64 north, .int .i64 cols, .slice (some ⟨gE, 0, none⟩) east.length capE, .int .i64 lofts, .slice (some ⟨gS, 0, none⟩) svs.length capS, .int .i64 wrong]) 11 12 rfl (by kernel_rfl) ⟨b5.keep (G.rf _).d, bO.keep (G.rf _).d⟩ (fun hS => ?_)
    have f1 : ∀ W', (Blk W' w.heap.size 25 #[.int .i64 north, .int .i64 cols, .slice ea east.length ec, .int .i64 lofts, .slice (some ⟨b, off, none⟩) svs.length sc, .int .i64 wrong] ∧ Blk W' N 25 #[.int .i64 north, .int .i64 cols, .slice (some ⟨gE, 0, none⟩) east.length capE, .int .i64 lofts, .slice (some ⟨gS, 0, none⟩) svs.length capS, .int .i64 wrong]) → W'.cell? ⟨w.heap.size, 4, none⟩ = some (.slice (some ⟨b, off, none⟩) svs.length sc) := fun W' h => h.1.cell 4
    have f2 : ∀ W', (Blk W' w.heap.size 25 #[.int .i64 north, .int .i64 cols, .slice ea east.length ec, .int .i64 lofts, .slice (some ⟨b, off, none⟩) svs.length sc, .int .i64 wrong] ∧ Blk W' N 25 #[.int .i64 north, .int .i64 cols, .slice (some ⟨gE, 0, none⟩) east.length capE, .int .i64 lofts, .slice (some ⟨gS, 0, none⟩) svs.length capS, .int .i64 wrong]) → W'.cell? ⟨N, 4, none⟩ = some (.slice (some ⟨gS, 0, none⟩) svs.length capS) := fun W' h => h.2.cell 4
    refine wpAnyY_take (i := 0) (v := ?_) rfl (by kernel_rfl) (by kernel_rfl) (by kernel_rfl) (by kernel_rfl) (fun _ _ _ h => h) (Or.inl ⟨by kernel_rfl, ?_⟩) (by assumption) ?_
    rotate_left
    · intro w' hSw; go_simp; with_reducible rfl
    try simp only [Act.put, List.setIfInBounds_toArray, List.set_cons_zero, List.set_cons_succ]
    refine wpAnyY_take (i := 1) (v := ?_) rfl (by kernel_rfl) (by kernel_rfl) (by kernel_rfl) (by kernel_rfl) (fun _ _ _ h => h) (Or.inl ⟨by kernel_rfl, ?_⟩) (by assumption) ?_
    rotate_left
    · intro w' hSw; go_simp; with_reducible rfl
    try simp only [Act.put, List.setIfInBounds_toArray, List.set_cons_zero, List.set_cons_succ]
    refine wpAnyY_take (i := 2) (v := ?_) rfl (by kernel_rfl) (by kernel_rfl) (by kernel_rfl) (by kernel_rfl) (fun _ _ _ h => h) (Or.inl ⟨by kernel_rfl, ?_⟩) (by assumption) ?_
    rotate_left
    · intro w' hSw; go_simp; with_reducible rfl
    try simp only [Act.put, List.setIfInBounds_toArray, List.set_cons_zero, List.set_cons_succ]
    refine wpAnyY_take (i := 3) (v := ?_) rfl (by kernel_rfl) (by kernel_rfl) (by kernel_rfl) (by kernel_rfl) (fun _ _ _ h => h) (Or.inl ⟨by kernel_rfl, ?_⟩) (by assumption) ?_
    rotate_left
    · intro w' hSw; go_simp; with_reducible rfl
    try simp only [Act.put, List.setIfInBounds_toArray, List.set_cons_zero, List.set_cons_succ]
    refine wpAnyY_take (i := 4) (v := ?_) rfl (by kernel_rfl) (by kernel_rfl) (by kernel_rfl) (by kernel_rfl) (fun _ _ _ h => h) (Or.inl ⟨by kernel_rfl, ?_⟩) (by assumption) ?_
    rotate_left
    · intro w' hSw; go_simp; with_reducible rfl
    try simp only [Act.put, List.setIfInBounds_toArray, List.set_cons_zero, List.set_cons_succ]
    refine wpAnyY_take (i := 5) (v := ?_) rfl (by kernel_rfl) (by kernel_rfl) (by kernel_rfl) (by kernel_rfl) (fun _ _ _ h => h) (Or.inl ⟨by kernel_rfl, ?_⟩) (by assumption) ?_
    rotate_left
    · intro w' hSw; go_simp; with_reducible rfl
    try simp only [Act.put, List.setIfInBounds_toArray, List.set_cons_zero, List.set_cons_succ]
    refine wpAnyY_take (i := 6) (v := ?_) rfl (by kernel_rfl) (by kernel_rfl) (by kernel_rfl) (by kernel_rfl) (fun _ _ _ h => h) (Or.inl ⟨by kernel_rfl, ?_⟩) (by assumption) ?_
    rotate_left
    · intro w' hSw; go_simp; with_reducible rfl
    try simp only [Act.put, List.setIfInBounds_toArray, List.set_cons_zero, List.set_cons_succ]
    refine wpAnyY_take (i := 7) (v := ?_) rfl (by kernel_rfl) (by kernel_rfl) (by kernel_rfl) (by kernel_rfl) (fun _ _ _ h => h) (Or.inl ⟨by kernel_rfl, ?_⟩) (by assumption) ?_
    rotate_left
    · intro w' hSw; go_simp; with_reducible rfl
    try simp only [Act.put, List.setIfInBounds_toArray, List.set_cons_zero, List.set_cons_succ]
    refine wpAnyY_take (i := 8) (v := ?_) rfl (by kernel_rfl) (by kernel_rfl) (by kernel_rfl) (by kernel_rfl) (fun _ _ _ h => h) (Or.inl ⟨by kernel_rfl, ?_⟩) (by assumption) ?_
    rotate_left
    · intro w' hSw; go_simp; rw [E1.out, if_pos ⟨by omega, by omega⟩, Int.toNat_natCast, HSA.out]
    try simp only [Act.put, List.setIfInBounds_toArray, List.set_cons_zero, List.set_cons_succ]
    obtain ⟨i6, hi6, hy0, hy1, hy2⟩ := info_parts info56
    have hrow := bS5.row hgS i (by omega)
    refine wpAnyY_oneSW (i := 9) (by kernel_rfl) rfl (by kernel_rfl) (fun K9 hK9 => ?_)
    refine wp_append_own _ (.tmp 78) (.tmp 83) 23 ?ho w3.heap.size 56 i6 _ 10 80 Try.underlying23 hi6 hy0 hy1 hy2 ?hzs ?hsz (.slice (some ⟨gS, 0, none⟩) i capS) i (svCells (svs.take i)) ?hs hrow.drew sad (svs.length - (i + 1)) (sc - (i + 1)) (svCells (svs.drop (i + 1))) ?hx ?hl ?hn ?h1 ?h63 ?hb ?hbase ?h
    case ho => rfl
    case hzs => rfl
    case hsz => omega
    case hs => go_simp
    case hx => go_simp
    case hl => rw [svCells_len, List.length_drop]
    case hn => exact HNW.out _ g5.d
    case h1 => exact svCells_one _
    case h63 => unfold maxLen; omega
    case hb => omega
    case hbase =>
      have := bS5.1.lt
      simp
      omega
    case h =>
      intro v9 w9 hown9 hg9 _
      rw [show (Value.slice (some ⟨gS, 0, none⟩) i capS).ownBlock = some gS from rfl] at hg9
      have nS1 : w.heap.size ≠ gS := b5.ne bS5.1 (by decide)
      have nS2 : N ≠ gS := bO.ne bS5.1 (by decide)
      have b9 := (b5.keep (G.rf _).d).grown hg9 (fun e => nS1 (by injection e))
      have o9 := (bO.keep (G.rf _).d).grown hg9 (fun e => nS2 (by injection e))
      have e9 := (bE5.keep (G.rf _).d).grown hg9 (fun e => bE5.ne bS5.1 (by decide) (by injection e))
      have g9 : G w w9 := ((G.fr (R := fun _ => False) g5.d).grown hg9 (fun g e => .inr (by injection e with e; have := lb; omega))).toG (fun _ _ h => h)
      rw [← svCells_app, ← List.eraseIdx_eq_take_drop_succ] at hown9
      obtain ⟨sa9, sc9, rfl, _, _⟩ := svs_of_own hown9 (by rw [List.length_eraseIdx_of_lt ht]; omega)
      rw [List.length_eraseIdx_of_lt ht] at hown9
      have hs9 := svs_at_own (hown9.kept (grownBy_set w9 ⟨N, 4, none⟩ (.slice sa9 (svs.length - 1) sc9)) (.inr (own_ne hown9 o9 (by decide)).symm)) (by rw [List.length_eraseIdx_of_lt ht]; omega)
      have HS9 := Lib.hid hs9
      rw [List.length_eraseIdx_of_lt ht]
      clear hown9 hg9 hs9
      refine hK9.out _ _ ⟨b9, o9⟩ (fun _ => ?_)
      try simp only [Act.put, List.setIfInBounds_toArray, List.set_cons_zero, List.set_cons_succ]
      refine wpAnyY_take (i := 10) (v := ?_) rfl (by kernel_rfl) (by kernel_rfl) (by kernel_rfl) (by kernel_rfl) (fun _ _ _ h => h) (Or.inl ⟨by kernel_rfl, ?_⟩) ⟨b9, o9⟩ ?_
      rotate_left
      · intro w' hSw; go_simp; with_reducible rfl
      try simp only [Act.put, List.setIfInBounds_toArray, List.set_cons_zero, List.set_cons_succ]
      have c9 : w9.cell? ⟨N, 4, none⟩ = some (.slice (some ⟨gS, 0, none⟩) svs.length capS) := o9.cell 4
      have z9 := o9.frozen 4
      have l9 := o9.lt
      refine wpAnyY_oneW (i := 11) (by kernel_rfl) rfl (by kernel_rfl) (by kernel_rfl) (fun K11 hK11 => ?_)
      go_simp
      refine hK11.out _ _ ?_
      refine wpAnyY_done (by kernel_rfl) ?_ _
      have oF := o9.set_ 4 (.slice sa9 (svs.length - 1) sc9)
      have gF : G w (w9.setCell ⟨N, 4, none⟩ (.slice sa9 (svs.length - 1) sc9)) := g9.s (by have := HNN.out; have := g5.size; simp; omega) _
      have eF := e9.far (p := ⟨N, 4, none⟩) (fun e => bE5.ne bO (by decide) e) (.slice sa9 (svs.length - 1) sc9)
      have HSF : Hid (SvsAt (w9.setCell ⟨N, 4, none⟩ (.slice sa9 (svs.length - 1) sc9)) sa9 (svs.eraseIdx i)) := HS9
      generalize w9.setCell ⟨N, 4, none⟩ (.slice sa9 (svs.length - 1) sc9) = wF at *
      have q0 := oF.cell 0
      have q1 := oF.cell 1
      have q2 := oF.cell 2
      have q3 := oF.cell 3
      have q4 := oF.cell 4
      have q5 := oF.cell 5
      have hE := east_at eF hcE
      have hkE := checkE_sub HK.out (svs' := svs.eraseIdx i) (by rw [List.length_eraseIdx_of_lt ht]; omega) (fun s hs => List.mem_of_mem_eraseIdx hs)
      have hFe := Fewest_ok north wrong cols lofts east (svs.eraseIdx i) (some ⟨gE, 0, none⟩) sa9 capE sc9 wF hE HSF.out hkE
      rw [List.length_eraseIdx_of_lt ht] at hFe
      have hfe := HFE.out
      generalize fewSum north cols east (svs.eraseIdx i) lofts = F' at hFe hfe
      have HFe := Lib.hid hFe
      clear hFe hkE hE HS9 HSF HFE c9 z9 l9 hK9 hK11 bO bE5 bS5 b5 o9 b9 e9 eF oF g9 f1 f2 hS
      by_cases hff : F' = F
      · subst hff
        go_wp2_with (first | (go_at_call 31; refine HFe.out.mono ?_; rintro e w10 ⟨rfl, hG10⟩) | (go_at_call 16; refine (works_any _).mono ?_; rintro e w11 ⟨rfl, hG11⟩))
        go_ret
        exact ⟨rfl, (gF.t hG10).t hG11⟩
      · obtain rfl : F = F' + 1 := by omega
        have x1 : IntKind.i64.wrap (((F' + 1 : Nat) : Int) - 1) = F' := by rw [IntWalk.i64_in _ (by omega)]; omega
        have x2 : ((F' : Int) == ((F' + 1 : Nat) : Int)) = false := by simp; omega
        go_wp2_with (first | (go_at_call 31; refine HFe.out.mono ?_; rintro e w10 ⟨rfl, hG10⟩) | (go_at_call 16; refine (works_any _).mono ?_; rintro e w11 ⟨rfl, hG11⟩))
        go_ret
        exact ⟨rfl, (gF.t hG10).t hG11⟩
  · have hw1 : decide ((F : Int) ≤ wrong) = false := by simp; omega
    go_enter Try.func9, Try.ntmps9
    go_wp2_with (first | (go_at_call 19; refine (HV.out _ g0).mono ?_; rintro e w1 ⟨rfl, hG1⟩; replace b0 := b0.keep hG1; replace g0 := g0.t hG1; clear hG1; have m0 := b0.cell 0; have m1 := b0.cell 1; have m2 := b0.cell 2; have m3 := b0.cell 3; have m4 := b0.cell 4; have m5 := b0.cell 5) | (go_at_call 31; refine (HF.out _ g0).mono ?_; rintro e w2 ⟨rfl, hG1⟩; replace b0 := b0.keep hG1; replace g0 := g0.t hG1; clear hG1 m0 m1 m2 m3 m4 m5; have m0 := b0.cell 0; have m1 := b0.cell 1; have m2 := b0.cell 2; have m3 := b0.cell 3; have m4 := b0.cell 4; have m5 := b0.cell 5) | (go_at_call 32; refine (HB.out _ g0).mono ?_; rintro e w3 ⟨lv, ll, lc, rfl, hll, hG1⟩; replace b0 := b0.keep hG1; replace g0 := g0.t hG1; clear hG1 m0 m1 m2 m3 m4 m5; have m0 := b0.cell 0; have m1 := b0.cell 1; have m2 := b0.cell 2; have m3 := b0.cell 3; have m4 := b0.cell 4; have m5 := b0.cell 5; have hll' : ¬ wrong < (ll : Int) := by omega) | (go_at_call 28; refine (HCp.out _ g0).mono ?_; rintro e w4 ⟨gE, capE, curE, gS, capS, curS, rfl, hgE, bE, hcE, hG1, hgS, bS⟩; have lb := b0.lt; replace b0 := b0.keep hG1; replace g0 := g0.t hG1; clear hG1 m0 m1 m2 m3 m4 m5; have m4 := b0.cell 4; have lb4 := b0.lt))
    obtain ⟨N, hN⟩ : ∃ N, N = w4.heap.size := ⟨_, rfl⟩
    rw [← hN]
    have b5 := b0.alloc (.cells #[.int .i64 north, .int .i64 cols, .slice (some ⟨gE, 0, none⟩) east.length capE, .int .i64 lofts, .slice (some ⟨gS, 0, none⟩) svs.length capS, .int .i64 wrong] 25)
    have bO : Blk (w4.alloc (.cells #[.int .i64 north, .int .i64 cols, .slice (some ⟨gE, 0, none⟩) east.length capE, .int .i64 lofts, .slice (some ⟨gS, 0, none⟩) svs.length capS, .int .i64 wrong] 25)) N 25 _ := Blk.newAt hN.symm _ _
    have g5 := g0.a (.cells #[.int .i64 north, .int .i64 cols, .slice (some ⟨gE, 0, none⟩) east.length capE, .int .i64 lofts, .slice (some ⟨gS, 0, none⟩) svs.length capS, .int .i64 wrong] 25)
    have bE5 := bE.alloc (.cells #[.int .i64 north, .int .i64 cols, .slice (some ⟨gE, 0, none⟩) east.length capE, .int .i64 lofts, .slice (some ⟨gS, 0, none⟩) svs.length capS, .int .i64 wrong] 25)
    have bS5 := bS.keep ((G.rf w4).a (.cells #[.int .i64 north, .int .i64 cols, .slice (some ⟨gE, 0, none⟩) east.length capE, .int .i64 lofts, .slice (some ⟨gS, 0, none⟩) svs.length capS, .int .i64 wrong] 25))
    generalize w4.alloc (.cells #[.int .i64 north, .int .i64 cols, .slice (some ⟨gE, 0, none⟩) east.length capE, .int .i64 lofts, .slice (some ⟨gS, 0, none⟩) svs.length capS, .int .i64 wrong] 25) = W5 at *
    have HNN := Lib.hid hN
    clear m4 hN b0 g0 bE bS
    have hcS : i ≤ capS := by have := bS5.2.1; omega
    rcases hs with rfl | ⟨b, off, rfl, hbb, hcc⟩
    · simp at ht
    have e1 : IntKind.i64.wrap ((i : Int) + 1) = ((i + 1 : Nat) : Int) := by rw [IntWalk.i64_in _ (by omega)]; rfl
    obtain ⟨sad, hsad, hnews⟩ : ∃ ad : Addr, (if sc = i + 1 then some (⟨b, off, none⟩ : Addr) else some ⟨b, off + (i + 1) * 10, none⟩) = some ad ∧ ∀ W, G w W → ∀ j u, (svCells (svs.drop (i + 1)))[j]? = some u → W.cell? (ad.add j) = some u := by
      by_cases h : sc = i + 1
      · exact ⟨_, if_pos h, fun W hW j u hj => by rw [List.drop_eq_nil_of_le (by omega)] at hj; simp [svCells] at hj⟩
      · exact ⟨_, if_neg h, fun W hW => src_at hbb hcc W hW (i + 1)⟩
    have E1 := Lib.hid e1
    have HSA := Lib.hid hsad
    have HNW := Lib.hid hnews
    clear e1 hsad hnews
    refine wp_region_Y (S := fun W' => Blk W' w.heap.size 25 #[.int .i64 north, .int .i64 cols, .slice ea east.length ec, .int .i64 lofts, .slice (some ⟨b, off, none⟩) svs.length sc, .int .i64 wrong] ∧ Blk W' N 25 #[.int .i64 north, .int .i64 cols, .slice (some ⟨gE, 0, none⟩) east.length capE, .int .i64 lofts, .slice (some ⟨gS, 0, none⟩) svs.length capS, .int .i64 wrong]) 11 12 rfl (by kernel_rfl) ⟨b5.keep (G.rf _).d, bO.keep (G.rf _).d⟩ (fun hS => ?_)
    have f1 : ∀ W', (Blk W' w.heap.size 25 #[.int .i64 north, .int .i64 cols, .slice ea east.length ec, .int .i64 lofts, .slice (some ⟨b, off, none⟩) svs.length sc, .int .i64 wrong] ∧ Blk W' N 25 #[.int .i64 north, .int .i64 cols, .slice (some ⟨gE, 0, none⟩) east.length capE, .int .i64 lofts, .slice (some ⟨gS, 0, none⟩) svs.length capS, .int .i64 wrong]) → W'.cell? ⟨w.heap.size, 4, none⟩ = some (.slice (some ⟨b, off, none⟩) svs.length sc) := fun W' h => h.1.cell 4
    have f2 : ∀ W', (Blk W' w.heap.size 25 #[.int .i64 north, .int .i64 cols, .slice ea east.length ec, .int .i64 lofts, .slice (some ⟨b, off, none⟩) svs.length sc, .int .i64 wrong] ∧ Blk W' N 25 #[.int .i64 north, .int .i64 cols, .slice (some ⟨gE, 0, none⟩) east.length capE, .int .i64 lofts, .slice (some ⟨gS, 0, none⟩) svs.length capS, .int .i64 wrong]) → W'.cell? ⟨N, 4, none⟩ = some (.slice (some ⟨gS, 0, none⟩) svs.length capS) := fun W' h => h.2.cell 4
    refine wpAnyY_take (i := 0) (v := ?_) rfl (by kernel_rfl) (by kernel_rfl) (by kernel_rfl) (by kernel_rfl) (fun _ _ _ h => h) (Or.inl ⟨by kernel_rfl, ?_⟩) (by assumption) ?_
    rotate_left
    · intro w' hSw; go_simp; with_reducible rfl
    try simp only [Act.put, List.setIfInBounds_toArray, List.set_cons_zero, List.set_cons_succ]
    refine wpAnyY_take (i := 1) (v := ?_) rfl (by kernel_rfl) (by kernel_rfl) (by kernel_rfl) (by kernel_rfl) (fun _ _ _ h => h) (Or.inl ⟨by kernel_rfl, ?_⟩) (by assumption) ?_
    rotate_left
    · intro w' hSw; go_simp; with_reducible rfl
    try simp only [Act.put, List.setIfInBounds_toArray, List.set_cons_zero, List.set_cons_succ]
    refine wpAnyY_take (i := 2) (v := ?_) rfl (by kernel_rfl) (by kernel_rfl) (by kernel_rfl) (by kernel_rfl) (fun _ _ _ h => h) (Or.inl ⟨by kernel_rfl, ?_⟩) (by assumption) ?_
    rotate_left
    · intro w' hSw; go_simp; with_reducible rfl
    try simp only [Act.put, List.setIfInBounds_toArray, List.set_cons_zero, List.set_cons_succ]
    refine wpAnyY_take (i := 3) (v := ?_) rfl (by kernel_rfl) (by kernel_rfl) (by kernel_rfl) (by kernel_rfl) (fun _ _ _ h => h) (Or.inl ⟨by kernel_rfl, ?_⟩) (by assumption) ?_
    rotate_left
    · intro w' hSw; go_simp; with_reducible rfl
    try simp only [Act.put, List.setIfInBounds_toArray, List.set_cons_zero, List.set_cons_succ]
    refine wpAnyY_take (i := 4) (v := ?_) rfl (by kernel_rfl) (by kernel_rfl) (by kernel_rfl) (by kernel_rfl) (fun _ _ _ h => h) (Or.inl ⟨by kernel_rfl, ?_⟩) (by assumption) ?_
    rotate_left
    · intro w' hSw; go_simp; with_reducible rfl
    try simp only [Act.put, List.setIfInBounds_toArray, List.set_cons_zero, List.set_cons_succ]
    refine wpAnyY_take (i := 5) (v := ?_) rfl (by kernel_rfl) (by kernel_rfl) (by kernel_rfl) (by kernel_rfl) (fun _ _ _ h => h) (Or.inl ⟨by kernel_rfl, ?_⟩) (by assumption) ?_
    rotate_left
    · intro w' hSw; go_simp; with_reducible rfl
    try simp only [Act.put, List.setIfInBounds_toArray, List.set_cons_zero, List.set_cons_succ]
    refine wpAnyY_take (i := 6) (v := ?_) rfl (by kernel_rfl) (by kernel_rfl) (by kernel_rfl) (by kernel_rfl) (fun _ _ _ h => h) (Or.inl ⟨by kernel_rfl, ?_⟩) (by assumption) ?_
    rotate_left
    · intro w' hSw; go_simp; with_reducible rfl
    try simp only [Act.put, List.setIfInBounds_toArray, List.set_cons_zero, List.set_cons_succ]
    refine wpAnyY_take (i := 7) (v := ?_) rfl (by kernel_rfl) (by kernel_rfl) (by kernel_rfl) (by kernel_rfl) (fun _ _ _ h => h) (Or.inl ⟨by kernel_rfl, ?_⟩) (by assumption) ?_
    rotate_left
    · intro w' hSw; go_simp; with_reducible rfl
    try simp only [Act.put, List.setIfInBounds_toArray, List.set_cons_zero, List.set_cons_succ]
    refine wpAnyY_take (i := 8) (v := ?_) rfl (by kernel_rfl) (by kernel_rfl) (by kernel_rfl) (by kernel_rfl) (fun _ _ _ h => h) (Or.inl ⟨by kernel_rfl, ?_⟩) (by assumption) ?_
    rotate_left
    · intro w' hSw; go_simp; rw [E1.out, if_pos ⟨by omega, by omega⟩, Int.toNat_natCast, HSA.out]
    try simp only [Act.put, List.setIfInBounds_toArray, List.set_cons_zero, List.set_cons_succ]
    obtain ⟨i6, hi6, hy0, hy1, hy2⟩ := info_parts info56
    have hrow := bS5.row hgS i (by omega)
    refine wpAnyY_oneSW (i := 9) (by kernel_rfl) rfl (by kernel_rfl) (fun K9 hK9 => ?_)
    refine wp_append_own _ (.tmp 78) (.tmp 83) 23 ?ho w3.heap.size 56 i6 _ 10 80 Try.underlying23 hi6 hy0 hy1 hy2 ?hzs ?hsz (.slice (some ⟨gS, 0, none⟩) i capS) i (svCells (svs.take i)) ?hs hrow.drew sad (svs.length - (i + 1)) (sc - (i + 1)) (svCells (svs.drop (i + 1))) ?hx ?hl ?hn ?h1 ?h63 ?hb ?hbase ?h
    case ho => rfl
    case hzs => rfl
    case hsz => omega
    case hs => go_simp
    case hx => go_simp
    case hl => rw [svCells_len, List.length_drop]
    case hn => exact HNW.out _ g5.d
    case h1 => exact svCells_one _
    case h63 => unfold maxLen; omega
    case hb => omega
    case hbase =>
      have := bS5.1.lt
      simp
      omega
    case h =>
      intro v9 w9 hown9 hg9 _
      rw [show (Value.slice (some ⟨gS, 0, none⟩) i capS).ownBlock = some gS from rfl] at hg9
      have nS1 : w.heap.size ≠ gS := b5.ne bS5.1 (by decide)
      have nS2 : N ≠ gS := bO.ne bS5.1 (by decide)
      have b9 := (b5.keep (G.rf _).d).grown hg9 (fun e => nS1 (by injection e))
      have o9 := (bO.keep (G.rf _).d).grown hg9 (fun e => nS2 (by injection e))
      have e9 := (bE5.keep (G.rf _).d).grown hg9 (fun e => bE5.ne bS5.1 (by decide) (by injection e))
      have g9 : G w w9 := ((G.fr (R := fun _ => False) g5.d).grown hg9 (fun g e => .inr (by injection e with e; have := lb; omega))).toG (fun _ _ h => h)
      rw [← svCells_app, ← List.eraseIdx_eq_take_drop_succ] at hown9
      obtain ⟨sa9, sc9, rfl, _, _⟩ := svs_of_own hown9 (by rw [List.length_eraseIdx_of_lt ht]; omega)
      rw [List.length_eraseIdx_of_lt ht] at hown9
      have hs9 := svs_at_own (hown9.kept (grownBy_set w9 ⟨N, 4, none⟩ (.slice sa9 (svs.length - 1) sc9)) (.inr (own_ne hown9 o9 (by decide)).symm)) (by rw [List.length_eraseIdx_of_lt ht]; omega)
      have HS9 := Lib.hid hs9
      rw [List.length_eraseIdx_of_lt ht]
      clear hown9 hg9 hs9
      refine hK9.out _ _ ⟨b9, o9⟩ (fun _ => ?_)
      try simp only [Act.put, List.setIfInBounds_toArray, List.set_cons_zero, List.set_cons_succ]
      refine wpAnyY_take (i := 10) (v := ?_) rfl (by kernel_rfl) (by kernel_rfl) (by kernel_rfl) (by kernel_rfl) (fun _ _ _ h => h) (Or.inl ⟨by kernel_rfl, ?_⟩) ⟨b9, o9⟩ ?_
      rotate_left
      · intro w' hSw; go_simp; with_reducible rfl
      try simp only [Act.put, List.setIfInBounds_toArray, List.set_cons_zero, List.set_cons_succ]
      have c9 : w9.cell? ⟨N, 4, none⟩ = some (.slice (some ⟨gS, 0, none⟩) svs.length capS) := o9.cell 4
      have z9 := o9.frozen 4
      have l9 := o9.lt
      refine wpAnyY_oneW (i := 11) (by kernel_rfl) rfl (by kernel_rfl) (by kernel_rfl) (fun K11 hK11 => ?_)
      go_simp
      refine hK11.out _ _ ?_
      refine wpAnyY_done (by kernel_rfl) ?_ _
      have oF := o9.set_ 4 (.slice sa9 (svs.length - 1) sc9)
      have gF : G w (w9.setCell ⟨N, 4, none⟩ (.slice sa9 (svs.length - 1) sc9)) := g9.s (by have := HNN.out; have := g5.size; simp; omega) _
      have eF := e9.far (p := ⟨N, 4, none⟩) (fun e => bE5.ne bO (by decide) e) (.slice sa9 (svs.length - 1) sc9)
      have HSF : Hid (SvsAt (w9.setCell ⟨N, 4, none⟩ (.slice sa9 (svs.length - 1) sc9)) sa9 (svs.eraseIdx i)) := HS9
      generalize w9.setCell ⟨N, 4, none⟩ (.slice sa9 (svs.length - 1) sc9) = wF at *
      have q0 := oF.cell 0
      have q1 := oF.cell 1
      have q2 := oF.cell 2
      have q3 := oF.cell 3
      have q4 := oF.cell 4
      have q5 := oF.cell 5
      have hE := east_at eF hcE
      have hkE := checkE_sub HK.out (svs' := svs.eraseIdx i) (by rw [List.length_eraseIdx_of_lt ht]; omega) (fun s hs => List.mem_of_mem_eraseIdx hs)
      have hFe := Fewest_ok north wrong cols lofts east (svs.eraseIdx i) (some ⟨gE, 0, none⟩) sa9 capE sc9 wF hE HSF.out hkE
      rw [List.length_eraseIdx_of_lt ht] at hFe
      have hfe := HFE.out
      generalize fewSum north cols east (svs.eraseIdx i) lofts = F' at hFe hfe
      have HFe := Lib.hid hFe
      clear hFe hkE hE HS9 HSF HFE c9 z9 l9 hK9 hK11 bO bE5 bS5 b5 o9 b9 e9 eF oF g9 f1 f2 hS
      by_cases hff : F' = F
      · subst hff
        go_wp2_with (first | (go_at_call 31; refine HFe.out.mono ?_; rintro e w10 ⟨rfl, hG10⟩) | (go_at_call 16; refine (works_any _).mono ?_; rintro e w11 ⟨rfl, hG11⟩))
        go_ret
        exact ⟨rfl, (gF.t hG10).t hG11⟩
      · obtain rfl : F = F' + 1 := by omega
        have x1 : IntKind.i64.wrap (((F' + 1 : Nat) : Int) - 1) = F' := by rw [IntWalk.i64_in _ (by omega)]; omega
        have x2 : ((F' : Int) == ((F' + 1 : Nat) : Int)) = false := by simp; omega
        go_wp2_with (first | (go_at_call 31; refine HFe.out.mono ?_; rintro e w10 ⟨rfl, hG10⟩) | (go_at_call 16; refine (works_any _).mono ?_; rintro e w11 ⟨rfl, hG11⟩))
        go_ret
        exact ⟨rfl, (gF.t hG10).t hG11⟩
end
end Go.Proofs.Ytpjfdfddcnocpaa
