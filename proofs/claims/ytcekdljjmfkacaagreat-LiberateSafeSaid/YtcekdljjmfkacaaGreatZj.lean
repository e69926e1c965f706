import Derived.Test.YtcekdljjmfkacaaGreatXc
set_option linter.unusedSimpArgs false
set_option linter.unusedVariables false
namespace Go.Proofs.YtcekdljjmfkacaaGreat
open Go.RowKit Go.Shelf
attribute [local go_sem] Oper.semAt_some wide_fn wide_dep wideR_fn wideR_dep
section
variable (hi mi Z sN : Int) (b1 b2 : Bool) (REL : Array Value) (w : World)
set_option maxRecDepth 100000 in
set_option maxHeartbeats 4000000 in
theorem rSafe6_walk (hIs : IsRel REL) (hI : ∀ W, Calls Tryz.prog 41 #[.agg REL, .int .i64 hi] W fun e w' => e = .returned (.bool b1) ∧ G W w') (hM : ∀ W, Calls Tryz.prog 46 #[.int .i64 mi] W fun e w' => e = .returned (.bool b2) ∧ G W w')
    (hQ : ∀ W, G w W → Calls Tryz.prog 52 #[.agg REL, .bool (b1 && b2)] W fun e w' => e = .returned (.int .i64 Z) ∧ G W w') (hF : Z = 0 → ∀ W, G w W → Calls Tryz.prog 57 #[.agg REL, .int .i64 hi, .int .i64 mi] W fun e w' => e = .returned (.int .i64 sN) ∧ G W w') :
    Calls Tryz.prog 21 #[.agg REL, .int .i64 hi, .int .i64 mi] w (TwoPost w Z (.int .i64 sN) (.int .i64 0)) := by
  have HOK : Hid (∀ w', Z = 0 → G w w' → TwoPost w Z (.int .i64 sN) (.int .i64 0) (.returned (.tuple #[.int .i64 sN, .int .i64 0])) w') := fun w' h a => ⟨by rw [if_pos h, h], a⟩
  have HER : Hid (∀ w', Z ≠ 0 → G w w' → TwoPost w Z (.int .i64 sN) (.int .i64 0) (.returned (.tuple #[.int .i64 0, .int .i64 Z])) w') := fun w' h a => ⟨by rw [if_neg h], a⟩
  generalize TwoPost w Z (.int .i64 sN) (.int .i64 0) = PP at *
  have HIS := Lib.hid hIs
  have HI := Lib.hid hI
  have HM := Lib.hid hM
  have HQ := Lib.hid hQ
  have HF := Lib.hid hF
  clear hI hM hQ hF hIs
  have g0 : G w (w.alloc (.cells REL 35)) := (G.rf _).a _
  have b0 : Blk (w.alloc (.cells REL 35)) w.heap.size 35 REL := Blk.new w 35 REL
  go_enter Tryz.func21, Tryz.ntmps21
  go_upto_region 1 with fail
  change Code.wp _ _ _ _ (w.alloc (.cells REL 35))
  generalize w.alloc (.cells REL 35) = w1 at *
  refine wp_region_Y (S := fun W' => Blk W' w.heap.size 35 REL) 9 10 rfl (by kernel_rfl) (b0.keep (G.rf _).d) (fun hS => ?_)
  have ga := (G.rf w1).d
  refine wpAnyY_take (i := 0) (v := .agg REL) rfl (by kernel_rfl) (by kernel_rfl) (by kernel_rfl) (by kernel_rfl) (fun _ _ _ h => h) (Or.inl ⟨by kernel_rfl, ?_⟩) hS ?_
  · intro w' hSw; exact load46o w' w.heap.size 3 HIS.out _ _ rfl (by kernel_rfl) hSw
  try simp only [Act.put, List.getElem_toArray, List.getElem_cons_zero, List.getElem_cons_succ, List.setIfInBounds_toArray, List.set_cons_zero, List.set_cons_succ]
  refine wpAnyY_take (i := 1) (v := .agg REL) rfl (by kernel_rfl) (by kernel_rfl) (by kernel_rfl) (by kernel_rfl) (fun _ _ _ h => h) (Or.inl ⟨by kernel_rfl, ?_⟩) hS ?_
  · intro w' hSw; exact load46o w' w.heap.size 3 HIS.out _ _ rfl (by kernel_rfl) hSw
  try simp only [Act.put, List.getElem_toArray, List.getElem_cons_zero, List.getElem_cons_succ, List.setIfInBounds_toArray, List.set_cons_zero, List.set_cons_succ]
  refine wpAnyY_take (i := 2) (v := ?_) rfl (by kernel_rfl) (by kernel_rfl) (by kernel_rfl) (by kernel_rfl) (fun _ _ _ h => h) (Or.inl ⟨by kernel_rfl, ?_⟩) hS ?_
  rotate_left
  · intro w' hSw; go_simp; with_reducible rfl
  try simp only [Act.put, List.getElem_toArray, List.getElem_cons_zero, List.getElem_cons_succ, List.setIfInBounds_toArray, List.set_cons_zero, List.set_cons_succ]
  refine wpAnyY_oneSW (i := 3) (by kernel_rfl) rfl (by kernel_rfl) (fun K3 hK3 => ?_)
  go_simp
  refine (HI.out _).mono ?_
  rintro e w2 ⟨rfl, hG3⟩
  replace ga := ga.t hG3
  refine hK3.out _ _ (b0.keep ga) (fun hS => ?_)
  try simp only [Act.put, List.getElem_toArray, List.getElem_cons_zero, List.getElem_cons_succ, List.setIfInBounds_toArray, List.set_cons_zero, List.set_cons_succ]
  refine wpAnyY_take (i := 4) (v := ?_) rfl (by kernel_rfl) (by kernel_rfl) (by kernel_rfl) (by kernel_rfl) (fun _ _ _ h => h) (Or.inl ⟨by kernel_rfl, ?_⟩) hS ?_
  rotate_left
  · intro w' hSw; go_simp; with_reducible rfl
  try simp only [Act.put, List.getElem_toArray, List.getElem_cons_zero, List.getElem_cons_succ, List.setIfInBounds_toArray, List.set_cons_zero, List.set_cons_succ]
  cases b1
  ·
    refine wpAnyY_take (i := 5) (v := undef) rfl (by kernel_rfl) (by kernel_rfl) (by kernel_rfl) (by kernel_rfl) (fun _ _ _ h => h) (Or.inr ⟨by kernel_rfl, rfl⟩) hS ?_
    try simp only [Act.put, List.getElem_toArray, List.getElem_cons_zero, List.getElem_cons_succ, List.setIfInBounds_toArray, List.set_cons_zero, List.set_cons_succ]
    refine wpAnyY_take (i := 6) (v := undef) rfl (by kernel_rfl) (by kernel_rfl) (by kernel_rfl) (by kernel_rfl) (fun _ _ _ h => h) (Or.inr ⟨by kernel_rfl, rfl⟩) hS ?_
    try simp only [Act.put, List.getElem_toArray, List.getElem_cons_zero, List.getElem_cons_succ, List.setIfInBounds_toArray, List.set_cons_zero, List.set_cons_succ]
    refine wpAnyY_take (i := 7) (v := ?_) rfl (by kernel_rfl) (by kernel_rfl) (by kernel_rfl) (by kernel_rfl) (fun _ _ _ h => h) (Or.inl ⟨by kernel_rfl, ?_⟩) hS ?_
    rotate_left
    · intro w' hSw; go_simp; with_reducible rfl
    try simp only [Act.put, List.getElem_toArray, List.getElem_cons_zero, List.getElem_cons_succ, List.setIfInBounds_toArray, List.set_cons_zero, List.set_cons_succ]
    refine wpAnyY_oneSW (i := 8) (by kernel_rfl) rfl (by kernel_rfl) (fun K8 hK8 => ?_)
    go_simp
    refine (HQ.out _ (g0.t ga)).mono ?_
    rintro e w4 ⟨rfl, hG8⟩
    replace ga := ga.t hG8
    refine hK8.out _ _ (b0.keep ga) (fun hS => ?_)
    try simp only [Act.put, List.getElem_toArray, List.getElem_cons_zero, List.getElem_cons_succ, List.setIfInBounds_toArray, List.set_cons_zero, List.set_cons_succ]
    refine wpAnyY_oneW (i := 9) (by kernel_rfl) rfl (by kernel_rfl) (by kernel_rfl) (fun K9 hK9 => ?_)
    go_simp
    refine hK9.out _ _ ?_
    try simp only [Act.put, List.getElem_toArray, List.getElem_cons_zero, List.getElem_cons_succ, List.setIfInBounds_toArray, List.set_cons_zero, List.set_cons_succ]
    refine wpAnyY_done (by kernel_rfl) ?_ _
    have gz := g0.t ga
    have bz : Blk w4 w.heap.size 35 REL := b0.keep ga
    clear b0 hS HI HM HQ
    by_cases hz : Z = 0
    · have HFz := Lib.hid (HF.out hz _ gz)
      have HO := Lib.hid (fun w' h => HOK.out w' hz h)
      subst hz
      clear HF HOK HER
      go_upto_region 4 with fail
      refine wp_region_lit ?_
      refine wpList_load35 w.heap.size 3 HIS.out rfl rfl rfl bz ?_
      try simp only [Act.put, List.getElem_toArray, List.getElem_cons_zero, List.getElem_cons_succ, List.setIfInBounds_toArray, List.set_cons_zero, List.set_cons_succ]
      go_wp2_with (go_at_call 57; refine (HFz.out).mono ?_; rintro e w5 ⟨rfl, hG5⟩)
      exact HO.out _ (gz.t hG5)
    · have HE := Lib.hid (HER.out _ hz gz)
      clear HOK HER HF HIS bz
      go_wp2
      exact HE.out
  ·
    refine wpAnyY_take (i := 5) (v := ?_) rfl (by kernel_rfl) (by kernel_rfl) (by kernel_rfl) (by kernel_rfl) (fun _ _ _ h => h) (Or.inl ⟨by kernel_rfl, ?_⟩) hS ?_
    rotate_left
    · intro w' hSw; go_simp; with_reducible rfl
    try simp only [Act.put, List.getElem_toArray, List.getElem_cons_zero, List.getElem_cons_succ, List.setIfInBounds_toArray, List.set_cons_zero, List.set_cons_succ]
    refine wpAnyY_oneSW (i := 6) (by kernel_rfl) rfl (by kernel_rfl) (fun K6 hK6 => ?_)
    go_simp
    refine (HM.out _).mono ?_
    rintro e w3 ⟨rfl, hG6⟩
    replace ga := ga.t hG6
    refine hK6.out _ _ (b0.keep ga) (fun hS => ?_)
    try simp only [Act.put, List.getElem_toArray, List.getElem_cons_zero, List.getElem_cons_succ, List.setIfInBounds_toArray, List.set_cons_zero, List.set_cons_succ]
    refine wpAnyY_take (i := 7) (v := ?_) rfl (by kernel_rfl) (by kernel_rfl) (by kernel_rfl) (by kernel_rfl) (fun _ _ _ h => h) (Or.inl ⟨by kernel_rfl, ?_⟩) hS ?_
    rotate_left
    · intro w' hSw; go_simp; with_reducible rfl
    try simp only [Act.put, List.getElem_toArray, List.getElem_cons_zero, List.getElem_cons_succ, List.setIfInBounds_toArray, List.set_cons_zero, List.set_cons_succ]
    refine wpAnyY_oneSW (i := 8) (by kernel_rfl) rfl (by kernel_rfl) (fun K8 hK8 => ?_)
    go_simp
    refine (HQ.out _ (g0.t ga)).mono ?_
    rintro e w4 ⟨rfl, hG8⟩
    replace ga := ga.t hG8
    refine hK8.out _ _ (b0.keep ga) (fun hS => ?_)
    try simp only [Act.put, List.getElem_toArray, List.getElem_cons_zero, List.getElem_cons_succ, List.setIfInBounds_toArray, List.set_cons_zero, List.set_cons_succ]
    refine wpAnyY_oneW (i := 9) (by kernel_rfl) rfl (by kernel_rfl) (by kernel_rfl) (fun K9 hK9 => ?_)
    go_simp
    refine hK9.out _ _ ?_
    try simp only [Act.put, List.getElem_toArray, List.getElem_cons_zero, List.getElem_cons_succ, List.setIfInBounds_toArray, List.set_cons_zero, List.set_cons_succ]
    refine wpAnyY_done (by kernel_rfl) ?_ _
    have gz := g0.t ga
    have bz : Blk w4 w.heap.size 35 REL := b0.keep ga
    clear b0 hS HI HM HQ
    by_cases hz : Z = 0
    · have HFz := Lib.hid (HF.out hz _ gz)
      have HO := Lib.hid (fun w' h => HOK.out w' hz h)
      subst hz
      clear HF HOK HER
      go_upto_region 4 with fail
      refine wp_region_lit ?_
      refine wpList_load35 w.heap.size 3 HIS.out rfl rfl rfl bz ?_
      try simp only [Act.put, List.getElem_toArray, List.getElem_cons_zero, List.getElem_cons_succ, List.setIfInBounds_toArray, List.set_cons_zero, List.set_cons_succ]
      go_wp2_with (go_at_call 57; refine (HFz.out).mono ?_; rintro e w5 ⟨rfl, hG5⟩)
      exact HO.out _ (gz.t hG5)
    · have HE := Lib.hid (HER.out _ hz gz)
      clear HOK HER HF HIS bz
      go_wp2
      exact HE.out
end
end Go.Proofs.YtcekdljjmfkacaaGreat
