import Derived.Test.YtcekdljjmfkacaaGreatXi
set_option linter.unusedSimpArgs false
set_option linter.unusedVariables false
namespace Go.Proofs.YtcekdljjmfkacaaGreat
open Go.RowKit Go.Shelf
attribute [local go_sem] Oper.semAt_some wide_fn wide_dep wideR_fn wideR_dep
section
variable (a b N : Nat) (ai bi Z : Int) (b1 b2 : Bool) (REL : Array Value) (FcP : World → Nat → Prop) (fly : Nat → Bool) (w : World)
set_option maxRecDepth 100000 in
set_option maxHeartbeats 4000000 in
theorem First_walkI (hIs : IsRel REL) (hab : Z = 0 → ai = a ∧ bi = b ∧ a ≤ 1000000 ∧ b ≤ 1000000) (hN : N = b + 1 - a) (hI : ∀ W, Calls Tryz.prog 43 #[.int .i64 ai] W fun e w' => e = .returned (.bool b1) ∧ G W w') (hM : ∀ W, Calls Tryz.prog 43 #[.int .i64 bi] W fun e w' => e = .returned (.bool b2) ∧ G W w')
    (hQ : ∀ W, G w W → Calls Tryz.prog 48 #[.agg REL, .bool (b1 && b2)] W (QR W Z FcP)) (hkp : ∀ W W' F, FcP W F → G W W' → FcP W' F) (hF : ∀ W F mi, G w W → FcP W F → mi ≤ 1000000 → Calls Tryz.prog 60 #[.pointer (some ⟨F, 0, none⟩), .int .i64 (mi : Nat)] W fun e w' => e = .returned (.bool (fly mi)) ∧ G W w') :
    Calls Tryz.prog 25 #[.agg REL, .int .i64 ai, .int .i64 bi] w (FiPost w Z (firstR fly a N)) := by
  have HOK : Hid (∀ w' x y, Z = 0 → firstR fly a N = (x, y) → G w w' → FiPost w Z (firstR fly a N) (.returned (.tuple #[.int .i64 x, .int .i64 y])) w') := fun w' x y h hf a => ⟨by rw [if_pos h, if_pos h, hf], a⟩
  have HER : Hid (∀ w', Z ≠ 0 → G w w' → FiPost w Z (firstR fly a N) (.returned (.tuple #[.int .i64 0, .int .i64 Z])) w') := fun w' h a => ⟨by rw [if_neg h, if_neg h], a⟩
  generalize FiPost w Z (firstR fly a N) = PP at *
  have HIS := Lib.hid hIs
  have HAB := Lib.hid hab
  have HI := Lib.hid hI
  have HM := Lib.hid hM
  have HQ := Lib.hid hQ
  have HF := Lib.hid hF
  have HKP := Lib.hid hkp
  clear hI hM hQ hF hIs hkp hab
  have g0 : G w (w.alloc (.cells REL 35)) := (G.rf _).a _
  have b0 : Blk (w.alloc (.cells REL 35)) w.heap.size 35 REL := Blk.new w 35 REL
  go_enter Tryz.func25, Tryz.ntmps25
  go_upto_region 1 with fail
  change Code.wp _ _ _ _ (w.alloc (.cells REL 35))
  generalize w.alloc (.cells REL 35) = w1 at *
  refine wp_region_Y (S := fun W' => Blk W' w.heap.size 35 REL) 12 13 rfl (by kernel_rfl) (b0.keep (G.rf _).d) (fun hS => ?_)
  have ga := (G.rf w1).d
  refine wpAnyY_take (i := 0) (v := .agg REL) rfl (by kernel_rfl) (by kernel_rfl) (by kernel_rfl) (by kernel_rfl) (fun _ _ _ h => h) (Or.inl ⟨by kernel_rfl, ?_⟩) hS ?_
  · intro w' hSw; exact load46o w' w.heap.size 3 HIS.out _ _ rfl (by kernel_rfl) hSw
  try simp only [Act.put, List.getElem_toArray, List.getElem_cons_zero, List.getElem_cons_succ, List.setIfInBounds_toArray, List.set_cons_zero, List.set_cons_succ]
  refine wpAnyY_take (i := 1) (v := ?_) rfl (by kernel_rfl) (by kernel_rfl) (by kernel_rfl) (by kernel_rfl) (fun _ _ _ h => h) (Or.inl ⟨by kernel_rfl, ?_⟩) hS ?_
  rotate_left
  · intro w' hSw; go_simp; with_reducible rfl
  try simp only [Act.put, List.getElem_toArray, List.getElem_cons_zero, List.getElem_cons_succ, List.setIfInBounds_toArray, List.set_cons_zero, List.set_cons_succ]
  refine wpAnyY_oneSW (i := 2) (by kernel_rfl) rfl (by kernel_rfl) (fun K2 hK2 => ?_)
  go_simp
  refine (HI.out _).mono ?_
  rintro e w2 ⟨rfl, hG2⟩
  replace ga := ga.t hG2
  refine hK2.out _ _ (b0.keep ga) (fun hS => ?_)
  try simp only [Act.put, List.getElem_toArray, List.getElem_cons_zero, List.getElem_cons_succ, List.setIfInBounds_toArray, List.set_cons_zero, List.set_cons_succ]
  refine wpAnyY_take (i := 3) (v := ?_) rfl (by kernel_rfl) (by kernel_rfl) (by kernel_rfl) (by kernel_rfl) (fun _ _ _ h => h) (Or.inl ⟨by kernel_rfl, ?_⟩) hS ?_
  rotate_left
  · intro w' hSw; go_simp; with_reducible rfl
  try simp only [Act.put, List.getElem_toArray, List.getElem_cons_zero, List.getElem_cons_succ, List.setIfInBounds_toArray, List.set_cons_zero, List.set_cons_succ]
  cases b1
  ·
    refine wpAnyY_take (i := 4) (v := undef) rfl (by kernel_rfl) (by kernel_rfl) (by kernel_rfl) (by kernel_rfl) (fun _ _ _ h => h) (Or.inr ⟨by kernel_rfl, rfl⟩) hS ?_
    try simp only [Act.put, List.getElem_toArray, List.getElem_cons_zero, List.getElem_cons_succ, List.setIfInBounds_toArray, List.set_cons_zero, List.set_cons_succ]
    refine wpAnyY_take (i := 5) (v := undef) rfl (by kernel_rfl) (by kernel_rfl) (by kernel_rfl) (by kernel_rfl) (fun _ _ _ h => h) (Or.inr ⟨by kernel_rfl, rfl⟩) hS ?_
    try simp only [Act.put, List.getElem_toArray, List.getElem_cons_zero, List.getElem_cons_succ, List.setIfInBounds_toArray, List.set_cons_zero, List.set_cons_succ]
    refine wpAnyY_take (i := 6) (v := ?_) rfl (by kernel_rfl) (by kernel_rfl) (by kernel_rfl) (by kernel_rfl) (fun _ _ _ h => h) (Or.inl ⟨by kernel_rfl, ?_⟩) hS ?_
    rotate_left
    · intro w' hSw; go_simp; with_reducible rfl
    try simp only [Act.put, List.getElem_toArray, List.getElem_cons_zero, List.getElem_cons_succ, List.setIfInBounds_toArray, List.set_cons_zero, List.set_cons_succ]
    refine wpAnyY_oneSW (i := 7) (by kernel_rfl) rfl (by kernel_rfl) (fun K7 hK7 => ?_)
    go_simp
    refine (HQ.out _ (g0.t ga)).mono ?_
    rintro e w4 ⟨p, rfl, hG7, hZ⟩
    replace ga := ga.t hG7
    refine hK7.out _ _ (b0.keep ga) (fun hS => ?_)
    try simp only [Act.put, List.getElem_toArray, List.getElem_cons_zero, List.getElem_cons_succ, List.setIfInBounds_toArray, List.set_cons_zero, List.set_cons_succ]
    refine wpAnyY_take (i := 8) (v := ?_) rfl (by kernel_rfl) (by kernel_rfl) (by kernel_rfl) (by kernel_rfl) (fun _ _ _ h => h) (Or.inl ⟨by kernel_rfl, ?_⟩) hS ?_
    rotate_left
    · intro w' hSw; go_simp; with_reducible rfl
    try simp only [Act.put, List.getElem_toArray, List.getElem_cons_zero, List.getElem_cons_succ, List.setIfInBounds_toArray, List.set_cons_zero, List.set_cons_succ]
    refine wpAnyY_take (i := 9) (v := ?_) rfl (by kernel_rfl) (by kernel_rfl) (by kernel_rfl) (by kernel_rfl) (fun _ _ _ h => h) (Or.inl ⟨by kernel_rfl, ?_⟩) hS ?_
    rotate_left
    · intro w' hSw; go_simp; with_reducible rfl
    try simp only [Act.put, List.getElem_toArray, List.getElem_cons_zero, List.getElem_cons_succ, List.setIfInBounds_toArray, List.set_cons_zero, List.set_cons_succ]
    refine wpAnyY_take (i := 10) (v := ?_) rfl (by kernel_rfl) (by kernel_rfl) (by kernel_rfl) (by kernel_rfl) (fun _ _ _ h => h) (Or.inl ⟨by kernel_rfl, ?_⟩) hS ?_
    rotate_left
    · intro w' hSw; go_simp; with_reducible rfl
    try simp only [Act.put, List.getElem_toArray, List.getElem_cons_zero, List.getElem_cons_succ, List.setIfInBounds_toArray, List.set_cons_zero, List.set_cons_succ]
    refine wpAnyY_oneSW (i := 11) (by kernel_rfl) rfl (by kernel_rfl) (fun K11 hK11 => ?_)
    go_simp
    refine hK11.out _ _ (b0.keep ga) (fun hS => ?_)
    try simp only [Act.put, List.getElem_toArray, List.getElem_cons_zero, List.getElem_cons_succ, List.setIfInBounds_toArray, List.set_cons_zero, List.set_cons_succ]
    refine wpAnyY_oneW (i := 12) (by kernel_rfl) rfl (by kernel_rfl) (by kernel_rfl) (fun K12 hK12 => ?_)
    go_simp
    refine hK12.out _ _ ?_
    try simp only [Act.put, List.getElem_toArray, List.getElem_cons_zero, List.getElem_cons_succ, List.setIfInBounds_toArray, List.set_cons_zero, List.set_cons_succ]
    refine wpAnyY_done (by kernel_rfl) ?_ _
    have gz := g0.t ga
    clear b0 hS HI HM HQ HIS
    by_cases hz : Z = 0
    · obtain ⟨F, rfl, hfc⟩ := hZ hz
      obtain ⟨rfl, rfl, ha, hb⟩ := HAB.out hz
      subst hz
      have HO := Lib.hid (fun w' x y h => HOK.out w' x y rfl h)
      clear HOK HER hZ HAB
      have x1 : IntKind.i64.wrap ((b : Int) - a) = b - a := IntWalk.i64_in _ (by omega)
      obtain ⟨c, hc⟩ : ∃ c : Int, c = b - a + 1 := ⟨_, rfl⟩
      have x2 : IntKind.i64.wrap ((b : Int) - a + 1) = c := by rw [hc]; exact IntWalk.i64_in _ (by omega)
      have hcN : c ≤ N := by omega
      have hcN2 : ∀ k : Nat, k < N → (k : Int) < c := fun k hk => by omega
      have HCN := Lib.hid hcN2
      have hNb : a + N ≤ 1000001 ∨ N = 0 := by omega
      clear hc hN hcN2
      go_wp2_with fail
      clear x1 x2
      go_loopw [10, 29] (fun u10 i wr => ∃ k : Nat, k ≤ N ∧ i = .int .i64 k ∧ Hid (∀ j, j < k → fly (a + j) = false) ∧ G w4 wr) (fun _ i _ => N - (intOf i).toNat)
      case atStart => exact ⟨0, Nat.zero_le _, rfl, fun j hj => absurd hj (Nat.not_lt_zero _), G.rf _⟩
      case round =>
        obtain ⟨k, hk, rfl, hno, hG⟩ := hrel
        by_cases hlt : k < N
        · have hki := HCN.out k hlt
          have x3 : IntKind.i64.wrap ((a : Int) + k) = ((a + k : Nat) : Int) := by rw [IntWalk.i64_in _ (by omega)]; rfl
          obtain ⟨ak, hak⟩ : ∃ ak, ak = a + k := ⟨_, rfl⟩
          rw [← hak] at x3
          have HFz := Lib.hid (HF.out _ F ak (gz.t hG) (HKP.out _ _ _ hfc hG) (by omega))
          have HAK := Lib.hid hak
          clear hak
          cases hfl : fly ak
          · rw [hfl] at HFz
            have HFL := Lib.hid hfl
            clear hfl
            go_wp2_with (go_at_call 60; refine (HFz.out).mono ?_; rintro e w5 ⟨rfl, hG5⟩)
            go_roundw
            case rel => exact ⟨k + 1, by omega, by go_num, fun j hj => by
              rcases Nat.lt_or_ge j k with h | h
              · exact hno.out j h
              · obtain rfl : j = k := by omega
                rw [← HAK.out]; exact HFL.out, hG.t hG5⟩
            case measure => simp [intOf]; omega
          · rw [hfl] at HFz
            have hfr := firstR_some hlt (by rw [← HAK.out]; exact hfl) hno.out
            rw [← HAK.out] at hfr
            have HFR := Lib.hid hfr
            clear hfl hfr
            go_wp2_with (go_at_call 60; refine (HFz.out).mono ?_; rintro e w5 ⟨rfl, hG5⟩)
            exact HO.out _ _ _ HFR.out ((gz.t hG).t hG5)
        · obtain rfl : N = k := by omega
          have HFR := Lib.hid (firstR_none hno.out)
          have hkc : ¬ (N : Int) < c := by omega
          clear HCN
          go_wp2_with fail
          exact HO.out _ _ _ HFR.out (gz.t hG)
    · have hz1 : (Z == 0) = false := by simpa using hz
      have HE := Lib.hid (HER.out _ hz gz)
      clear HOK HER HF hZ HAB
      go_wp2
      exact HE.out
  ·
    refine wpAnyY_take (i := 4) (v := ?_) rfl (by kernel_rfl) (by kernel_rfl) (by kernel_rfl) (by kernel_rfl) (fun _ _ _ h => h) (Or.inl ⟨by kernel_rfl, ?_⟩) hS ?_
    rotate_left
    · intro w' hSw; go_simp; with_reducible rfl
    try simp only [Act.put, List.getElem_toArray, List.getElem_cons_zero, List.getElem_cons_succ, List.setIfInBounds_toArray, List.set_cons_zero, List.set_cons_succ]
    refine wpAnyY_oneSW (i := 5) (by kernel_rfl) rfl (by kernel_rfl) (fun K5 hK5 => ?_)
    go_simp
    refine (HM.out _).mono ?_
    rintro e w3 ⟨rfl, hG5⟩
    replace ga := ga.t hG5
    refine hK5.out _ _ (b0.keep ga) (fun hS => ?_)
    try simp only [Act.put, List.getElem_toArray, List.getElem_cons_zero, List.getElem_cons_succ, List.setIfInBounds_toArray, List.set_cons_zero, List.set_cons_succ]
    refine wpAnyY_take (i := 6) (v := ?_) rfl (by kernel_rfl) (by kernel_rfl) (by kernel_rfl) (by kernel_rfl) (fun _ _ _ h => h) (Or.inl ⟨by kernel_rfl, ?_⟩) hS ?_
    rotate_left
    · intro w' hSw; go_simp; with_reducible rfl
    try simp only [Act.put, List.getElem_toArray, List.getElem_cons_zero, List.getElem_cons_succ, List.setIfInBounds_toArray, List.set_cons_zero, List.set_cons_succ]
    refine wpAnyY_oneSW (i := 7) (by kernel_rfl) rfl (by kernel_rfl) (fun K7 hK7 => ?_)
    go_simp
    refine (HQ.out _ (g0.t ga)).mono ?_
    rintro e w4 ⟨p, rfl, hG7, hZ⟩
    replace ga := ga.t hG7
    refine hK7.out _ _ (b0.keep ga) (fun hS => ?_)
    try simp only [Act.put, List.getElem_toArray, List.getElem_cons_zero, List.getElem_cons_succ, List.setIfInBounds_toArray, List.set_cons_zero, List.set_cons_succ]
    refine wpAnyY_take (i := 8) (v := ?_) rfl (by kernel_rfl) (by kernel_rfl) (by kernel_rfl) (by kernel_rfl) (fun _ _ _ h => h) (Or.inl ⟨by kernel_rfl, ?_⟩) hS ?_
    rotate_left
    · intro w' hSw; go_simp; with_reducible rfl
    try simp only [Act.put, List.getElem_toArray, List.getElem_cons_zero, List.getElem_cons_succ, List.setIfInBounds_toArray, List.set_cons_zero, List.set_cons_succ]
    refine wpAnyY_take (i := 9) (v := ?_) rfl (by kernel_rfl) (by kernel_rfl) (by kernel_rfl) (by kernel_rfl) (fun _ _ _ h => h) (Or.inl ⟨by kernel_rfl, ?_⟩) hS ?_
    rotate_left
    · intro w' hSw; go_simp; with_reducible rfl
    try simp only [Act.put, List.getElem_toArray, List.getElem_cons_zero, List.getElem_cons_succ, List.setIfInBounds_toArray, List.set_cons_zero, List.set_cons_succ]
    refine wpAnyY_take (i := 10) (v := ?_) rfl (by kernel_rfl) (by kernel_rfl) (by kernel_rfl) (by kernel_rfl) (fun _ _ _ h => h) (Or.inl ⟨by kernel_rfl, ?_⟩) hS ?_
    rotate_left
    · intro w' hSw; go_simp; with_reducible rfl
    try simp only [Act.put, List.getElem_toArray, List.getElem_cons_zero, List.getElem_cons_succ, List.setIfInBounds_toArray, List.set_cons_zero, List.set_cons_succ]
    refine wpAnyY_oneSW (i := 11) (by kernel_rfl) rfl (by kernel_rfl) (fun K11 hK11 => ?_)
    go_simp
    refine hK11.out _ _ (b0.keep ga) (fun hS => ?_)
    try simp only [Act.put, List.getElem_toArray, List.getElem_cons_zero, List.getElem_cons_succ, List.setIfInBounds_toArray, List.set_cons_zero, List.set_cons_succ]
    refine wpAnyY_oneW (i := 12) (by kernel_rfl) rfl (by kernel_rfl) (by kernel_rfl) (fun K12 hK12 => ?_)
    go_simp
    refine hK12.out _ _ ?_
    try simp only [Act.put, List.getElem_toArray, List.getElem_cons_zero, List.getElem_cons_succ, List.setIfInBounds_toArray, List.set_cons_zero, List.set_cons_succ]
    refine wpAnyY_done (by kernel_rfl) ?_ _
    have gz := g0.t ga
    clear b0 hS HI HM HQ HIS
    by_cases hz : Z = 0
    · obtain ⟨F, rfl, hfc⟩ := hZ hz
      obtain ⟨rfl, rfl, ha, hb⟩ := HAB.out hz
      subst hz
      have HO := Lib.hid (fun w' x y h => HOK.out w' x y rfl h)
      clear HOK HER hZ HAB
      have x1 : IntKind.i64.wrap ((b : Int) - a) = b - a := IntWalk.i64_in _ (by omega)
      obtain ⟨c, hc⟩ : ∃ c : Int, c = b - a + 1 := ⟨_, rfl⟩
      have x2 : IntKind.i64.wrap ((b : Int) - a + 1) = c := by rw [hc]; exact IntWalk.i64_in _ (by omega)
      have hcN : c ≤ N := by omega
      have hcN2 : ∀ k : Nat, k < N → (k : Int) < c := fun k hk => by omega
      have HCN := Lib.hid hcN2
      have hNb : a + N ≤ 1000001 ∨ N = 0 := by omega
      clear hc hN hcN2
      go_wp2_with fail
      clear x1 x2
      go_loopw [10, 29] (fun u10 i wr => ∃ k : Nat, k ≤ N ∧ i = .int .i64 k ∧ Hid (∀ j, j < k → fly (a + j) = false) ∧ G w4 wr) (fun _ i _ => N - (intOf i).toNat)
      case atStart => exact ⟨0, Nat.zero_le _, rfl, fun j hj => absurd hj (Nat.not_lt_zero _), G.rf _⟩
      case round =>
        obtain ⟨k, hk, rfl, hno, hG⟩ := hrel
        by_cases hlt : k < N
        · have hki := HCN.out k hlt
          have x3 : IntKind.i64.wrap ((a : Int) + k) = ((a + k : Nat) : Int) := by rw [IntWalk.i64_in _ (by omega)]; rfl
          obtain ⟨ak, hak⟩ : ∃ ak, ak = a + k := ⟨_, rfl⟩
          rw [← hak] at x3
          have HFz := Lib.hid (HF.out _ F ak (gz.t hG) (HKP.out _ _ _ hfc hG) (by omega))
          have HAK := Lib.hid hak
          clear hak
          cases hfl : fly ak
          · rw [hfl] at HFz
            have HFL := Lib.hid hfl
            clear hfl
            go_wp2_with (go_at_call 60; refine (HFz.out).mono ?_; rintro e w5 ⟨rfl, hG5⟩)
            go_roundw
            case rel => exact ⟨k + 1, by omega, by go_num, fun j hj => by
              rcases Nat.lt_or_ge j k with h | h
              · exact hno.out j h
              · obtain rfl : j = k := by omega
                rw [← HAK.out]; exact HFL.out, hG.t hG5⟩
            case measure => simp [intOf]; omega
          · rw [hfl] at HFz
            have hfr := firstR_some hlt (by rw [← HAK.out]; exact hfl) hno.out
            rw [← HAK.out] at hfr
            have HFR := Lib.hid hfr
            clear hfl hfr
            go_wp2_with (go_at_call 60; refine (HFz.out).mono ?_; rintro e w5 ⟨rfl, hG5⟩)
            exact HO.out _ _ _ HFR.out ((gz.t hG).t hG5)
        · obtain rfl : N = k := by omega
          have HFR := Lib.hid (firstR_none hno.out)
          have hkc : ¬ (N : Int) < c := by omega
          clear HCN
          go_wp2_with fail
          exact HO.out _ _ _ HFR.out (gz.t hG)
    · have hz1 : (Z == 0) = false := by simpa using hz
      have HE := Lib.hid (HER.out _ hz gz)
      clear HOK HER HF hZ HAB
      go_wp2
      exact HE.out
end
end Go.Proofs.YtcekdljjmfkacaaGreat
