import Derived.Test.YtcekdljjmfkacaaGreatXc
set_option linter.unusedSimpArgs false
set_option linter.unusedVariables false
namespace Go.Proofs.YtcekdljjmfkacaaGreat
open Go.RowKit Go.Shelf
attribute [local go_sem] Oper.semAt_some wide_fn wide_dep wideR_fn wideR_dep
/-- a slice that is somebody's own, or an error -/
def OrPost (w : World) (Z : Int) (Own : Value → World → Prop) (e : Ending) (w' : World) : Prop :=
  G w w' ∧ ((Z = 0 ∧ ∃ v, e = .returned (.tuple #[v, .int .i64 0]) ∧ Own v w') ∨ (Z ≠ 0 ∧ e = .returned (.tuple #[.slice none 0 0, .int .i64 Z])))
section
variable (hi mi z : Int) (b1 b2 : Bool) (Own : Value → World → Prop) (REL : Array Value) (w : World)
set_option maxRecDepth 100000 in
set_option maxHeartbeats 4000000 in
theorem rWay6_walk (hIs : IsRel REL) (hC : ∀ W, G w W → Calls Tryz.prog 10 #[.agg REL] W fun e w' => e = .returned (.int .i64 z) ∧ G W w') (hI : ∀ W, Calls Tryz.prog 41 #[.agg REL, .int .i64 hi] W fun e w' => e = .returned (.bool b1) ∧ G W w')
    (hW : z = 0 → b1 = true → ∀ W, G w W → Calls Tryz.prog 42 #[.agg REL, .int .i64 hi] W fun e w' => ∃ v, e = .returned v ∧ Own v w' ∧ G W w') :
    Calls Tryz.prog 12 #[.agg REL, .int .i64 hi] w (OrPost w ((if z = 0 then (if b1 = true then (0 : Int) else 1) else z : Int)) Own) := by
  have HOK : Hid (∀ v w', (if z = 0 then (if b1 = true then (0 : Int) else 1) else z : Int) = 0 → G w w' → Own v w' → OrPost w ((if z = 0 then (if b1 = true then (0 : Int) else 1) else z : Int)) Own (.returned (.tuple #[v, .int .i64 0])) w') := fun v w' h a o => ⟨a, .inl ⟨h, v, rfl, o⟩⟩
  have HER : Hid (∀ (x : Int) w', (if z = 0 then (if b1 = true then (0 : Int) else 1) else z : Int) = x → x ≠ 0 → G w w' → OrPost w ((if z = 0 then (if b1 = true then (0 : Int) else 1) else z : Int)) Own (.returned (.tuple #[.slice none 0 0, .int .i64 x])) w') := fun x w' h h0 a => ⟨a, .inr ⟨by rw [h]; exact h0, by rw [h]⟩⟩
  generalize OrPost w ((if z = 0 then (if b1 = true then (0 : Int) else 1) else z : Int)) Own = PP at *
  have HIS := Lib.hid hIs
  have g0 : G w (w.alloc (.cells REL 35)) := (G.rf _).a _
  have b0 : Blk (w.alloc (.cells REL 35)) w.heap.size 35 REL := Blk.new w 35 REL
  have HC := Lib.hid hC
  have HI := Lib.hid hI
  have HW := Lib.hid hW
  clear hC hI hW hIs
  go_enter Tryz.func12, Tryz.ntmps12
  go_upto_region 1 with fail
  change Code.wp _ _ _ _ (w.alloc (.cells REL 35))
  generalize w.alloc (.cells REL 35) = w1 at *
  refine wp_region_lit ?_
  refine wpList_load35 w.heap.size 2 HIS.out rfl rfl rfl b0 ?_
  try simp only [Act.put, List.getElem_toArray, List.getElem_cons_zero, List.getElem_cons_succ, List.setIfInBounds_toArray, List.set_cons_zero, List.set_cons_succ]
  refine wpList_plain rfl fun K hK => ?_
  go_simp
  refine (HC.out w1 g0).mono ?_
  rintro e w2 ⟨rfl, g2⟩
  refine hK _ _ ?_
  clear hK HC
  try simp only [Act.put, List.getElem_toArray, List.getElem_cons_zero, List.getElem_cons_succ, List.setIfInBounds_toArray, List.set_cons_zero, List.set_cons_succ]
  replace g0 := g0.t g2
  replace b0 := b0.keep g2
  clear g2
  by_cases h0 : z = 0
  · subst h0
    go_upto_region 4 with fail
    refine wp_region_lit ?_
    refine wpList_load35 w.heap.size 2 HIS.out rfl rfl rfl b0 ?_
    try simp only [Act.put, List.getElem_toArray, List.getElem_cons_zero, List.getElem_cons_succ, List.setIfInBounds_toArray, List.set_cons_zero, List.set_cons_succ]
    cases b1
    · have HF := Lib.hid (fun w' a => HER.out 1 w' rfl (by decide) a)
      clear HOK HER HW
      go_wp2_with (go_at_call 41; refine (HI.out _).mono ?_; rintro e w3 ⟨rfl, g3⟩)
      exact HF.out _ (g0.t g3)
    · have HF := Lib.hid (fun v w' a o => HOK.out v w' rfl a o)
      clear HOK HER
      go_upto_region 6 with (go_at_call 41; refine (HI.out _).mono ?_; rintro e w3 ⟨rfl, g3⟩; replace g0 := g0.t g3; replace b0 := b0.keep g3; clear g3)
      refine wp_region_lit ?_
      refine wpList_load35 w.heap.size 2 HIS.out rfl rfl rfl b0 ?_
      try simp only [Act.put, List.getElem_toArray, List.getElem_cons_zero, List.getElem_cons_succ, List.setIfInBounds_toArray, List.set_cons_zero, List.set_cons_succ]
      have HX := Lib.hid (HW.out (by trivial) (by trivial) _ g0)
      go_wp2_with (go_at_call 42; refine (HX.out).mono ?_; rintro e w4 ⟨v, rfl, ho, g4⟩)
      exact HF.out _ _ (g0.t g4) ho
  · have HF := Lib.hid (fun w' a => HER.out z w' (if_neg h0) h0 a)
    clear HOK HER HW
    go_wp2
    exact HF.out _ g0
set_option maxRecDepth 100000 in
set_option maxHeartbeats 4000000 in
theorem rPasses6_walk (hIs : IsRel REL) (hC : ∀ W, G w W → Calls Tryz.prog 10 #[.agg REL] W fun e w' => e = .returned (.int .i64 z) ∧ G W w') (hI : ∀ W, Calls Tryz.prog 41 #[.agg REL, .int .i64 hi] W fun e w' => e = .returned (.bool b1) ∧ G W w') (hM : ∀ W, Calls Tryz.prog 46 #[.int .i64 mi] W fun e w' => e = .returned (.bool b2) ∧ G W w')
    (hW : z = 0 → b1 = true ∧ b2 = true → ∀ W, G w W → Calls Tryz.prog 47 #[.agg REL, .int .i64 hi, .int .i64 mi] W fun e w' => ∃ v, e = .returned v ∧ Own v w' ∧ G W w') :
    Calls Tryz.prog 14 #[.agg REL, .int .i64 hi, .int .i64 mi] w (OrPost w ((if z = 0 then (if b1 = true ∧ b2 = true then (0 : Int) else 1) else z : Int)) Own) := by
  have HOK : Hid (∀ v w', (if z = 0 then (if b1 = true ∧ b2 = true then (0 : Int) else 1) else z : Int) = 0 → G w w' → Own v w' → OrPost w ((if z = 0 then (if b1 = true ∧ b2 = true then (0 : Int) else 1) else z : Int)) Own (.returned (.tuple #[v, .int .i64 0])) w') := fun v w' h a o => ⟨a, .inl ⟨h, v, rfl, o⟩⟩
  have HER : Hid (∀ (x : Int) w', (if z = 0 then (if b1 = true ∧ b2 = true then (0 : Int) else 1) else z : Int) = x → x ≠ 0 → G w w' → OrPost w ((if z = 0 then (if b1 = true ∧ b2 = true then (0 : Int) else 1) else z : Int)) Own (.returned (.tuple #[.slice none 0 0, .int .i64 x])) w') := fun x w' h h0 a => ⟨a, .inr ⟨by rw [h]; exact h0, by rw [h]⟩⟩
  generalize OrPost w ((if z = 0 then (if b1 = true ∧ b2 = true then (0 : Int) else 1) else z : Int)) Own = PP at *
  have HIS := Lib.hid hIs
  have g0 : G w (w.alloc (.cells REL 35)) := (G.rf _).a _
  have b0 : Blk (w.alloc (.cells REL 35)) w.heap.size 35 REL := Blk.new w 35 REL
  have HC := Lib.hid hC
  have HI := Lib.hid hI
  have HW := Lib.hid hW
  have HM := Lib.hid hM
  clear hC hI hW hIs hM
  go_enter Tryz.func14, Tryz.ntmps14
  go_upto_region 1 with fail
  change Code.wp _ _ _ _ (w.alloc (.cells REL 35))
  generalize w.alloc (.cells REL 35) = w1 at *
  refine wp_region_lit ?_
  refine wpList_load35 w.heap.size 3 HIS.out rfl rfl rfl b0 ?_
  try simp only [Act.put, List.getElem_toArray, List.getElem_cons_zero, List.getElem_cons_succ, List.setIfInBounds_toArray, List.set_cons_zero, List.set_cons_succ]
  refine wpList_plain rfl fun K hK => ?_
  go_simp
  refine (HC.out w1 g0).mono ?_
  rintro e w2 ⟨rfl, g2⟩
  refine hK _ _ ?_
  clear hK HC
  try simp only [Act.put, List.getElem_toArray, List.getElem_cons_zero, List.getElem_cons_succ, List.setIfInBounds_toArray, List.set_cons_zero, List.set_cons_succ]
  replace g0 := g0.t g2
  replace b0 := b0.keep g2
  clear g2
  by_cases h0 : z = 0
  · subst h0
    go_upto_region 4 with fail
    refine wp_region_lit ?_
    refine wpList_load35 w.heap.size 3 HIS.out rfl rfl rfl b0 ?_
    try simp only [Act.put, List.getElem_toArray, List.getElem_cons_zero, List.getElem_cons_succ, List.setIfInBounds_toArray, List.set_cons_zero, List.set_cons_succ]
    cases b1
    · have HF := Lib.hid (fun w' a => HER.out 1 w' rfl (by decide) a)
      clear HOK HER HW
      go_wp2_with (go_at_call 41; refine (HI.out _).mono ?_; rintro e w3 ⟨rfl, g3⟩; replace g0 := g0.t g3; replace b0 := b0.keep g3; clear g3)
      exact HF.out _ g0
    · cases b2
      · have HF := Lib.hid (fun w' a => HER.out 1 w' rfl (by decide) a)
        clear HOK HER HW
        go_wp2_with (first | (go_at_call 41; refine (HI.out _).mono ?_; rintro e w3 ⟨rfl, g3⟩; replace g0 := g0.t g3; replace b0 := b0.keep g3; clear g3) | (go_at_call 46; refine (HM.out _).mono ?_; rintro e w5 ⟨rfl, g5⟩; replace g0 := g0.t g5; replace b0 := b0.keep g5; clear g5))
        exact HF.out _ g0
      · have HF := Lib.hid (fun v w' a o => HOK.out v w' rfl a o)
        clear HOK HER
        go_upto_region 6 with (first | (go_at_call 41; refine (HI.out _).mono ?_; rintro e w3 ⟨rfl, g3⟩; replace g0 := g0.t g3; replace b0 := b0.keep g3; clear g3) | (go_at_call 46; refine (HM.out _).mono ?_; rintro e w5 ⟨rfl, g5⟩; replace g0 := g0.t g5; replace b0 := b0.keep g5; clear g5))
        refine wp_region_lit ?_
        refine wpList_load35 w.heap.size 3 HIS.out rfl rfl rfl b0 ?_
        try simp only [Act.put, List.getElem_toArray, List.getElem_cons_zero, List.getElem_cons_succ, List.setIfInBounds_toArray, List.set_cons_zero, List.set_cons_succ]
        have HX := Lib.hid (HW.out (by trivial) (by first | exact ⟨rfl, rfl⟩ | exact ⟨trivial, trivial⟩ | exact ⟨trivial, rfl⟩ | exact ⟨rfl, trivial⟩) _ g0)
        go_wp2_with (go_at_call 47; refine (HX.out).mono ?_; rintro e w4 ⟨v, rfl, ho, g4⟩)
        exact HF.out _ _ (g0.t g4) ho
  · have HF := Lib.hid (fun w' a => HER.out z w' (if_neg h0) h0 a)
    clear HOK HER HW
    go_wp2
    exact HF.out _ g0
set_option maxRecDepth 100000 in
set_option maxHeartbeats 4000000 in
theorem rBlocks6_walk (hIs : IsRel REL) (hM : ∀ W, Calls Tryz.prog 46 #[.int .i64 mi] W fun e w' => e = .returned (.bool b2) ∧ G W w')
    (hQ : ∀ W, G w W → Calls Tryz.prog 52 #[.agg REL, .bool b2] W fun e w' => e = .returned (.int .i64 z) ∧ G W w')
    (hW : z = 0 → ∀ W, G w W → Calls Tryz.prog 59 #[.agg REL, .int .i64 mi] W fun e w' => ∃ v, e = .returned v ∧ Own v w' ∧ G W w') :
    Calls Tryz.prog 23 #[.agg REL, .int .i64 mi] w (OrPost w (z) Own) := by
  have HOK : Hid (∀ v w', z = 0 → G w w' → Own v w' → OrPost w (z) Own (.returned (.tuple #[v, .int .i64 0])) w') := fun v w' h a o => ⟨a, .inl ⟨h, v, rfl, o⟩⟩
  have HER : Hid (∀ (x : Int) w', z = x → x ≠ 0 → G w w' → OrPost w (z) Own (.returned (.tuple #[.slice none 0 0, .int .i64 x])) w') := fun x w' h h0 a => ⟨a, .inr ⟨by rw [h]; exact h0, by rw [h]⟩⟩
  generalize OrPost w (z) Own = PP at *
  have HIS := Lib.hid hIs
  have g0 : G w (w.alloc (.cells REL 35)) := (G.rf _).a _
  have b0 : Blk (w.alloc (.cells REL 35)) w.heap.size 35 REL := Blk.new w 35 REL
  have HM := Lib.hid hM
  have HQ := Lib.hid hQ
  have HW := Lib.hid hW
  clear hM hQ hW hIs
  go_enter Tryz.func23, Tryz.ntmps23
  go_upto_region 1 with fail
  change Code.wp _ _ _ _ (w.alloc (.cells REL 35))
  generalize w.alloc (.cells REL 35) = w1 at *
  refine wp_region_Y (S := fun W' => Blk W' w.heap.size 35 REL) 4 5 rfl (by kernel_rfl) (b0.keep (G.rf _).d) (fun hS => ?_)
  have ga := (G.rf w1).d
  refine wpAnyY_take (i := 0) (v := .agg REL) rfl (by kernel_rfl) (by kernel_rfl) (by kernel_rfl) (by kernel_rfl) (fun _ _ _ h => h) (Or.inl ⟨by kernel_rfl, ?_⟩) hS ?_
  · intro w' hSw; exact load46o w' w.heap.size 2 HIS.out _ _ rfl (by kernel_rfl) hSw
  try simp only [Act.put, List.getElem_toArray, List.getElem_cons_zero, List.getElem_cons_succ, List.setIfInBounds_toArray, List.set_cons_zero, List.set_cons_succ]
  refine wpAnyY_take (i := 1) (v := ?_) rfl (by kernel_rfl) (by kernel_rfl) (by kernel_rfl) (by kernel_rfl) (fun _ _ _ h => h) (Or.inl ⟨by kernel_rfl, ?_⟩) hS ?_
  rotate_left
  · intro w' hSw; go_simp; with_reducible rfl
  try simp only [Act.put, List.getElem_toArray, List.getElem_cons_zero, List.getElem_cons_succ, List.setIfInBounds_toArray, List.set_cons_zero, List.set_cons_succ]
  refine wpAnyY_oneSW (i := 2) (by kernel_rfl) rfl (by kernel_rfl) (fun K2 hK2 => ?_)
  go_simp
  refine (HM.out _).mono ?_
  rintro e w2 ⟨rfl, hG2⟩
  replace ga := ga.t hG2
  refine hK2.out _ _ (b0.keep ga) (fun hS => ?_)
  try simp only [Act.put, List.getElem_toArray, List.getElem_cons_zero, List.getElem_cons_succ, List.setIfInBounds_toArray, List.set_cons_zero, List.set_cons_succ]
  refine wpAnyY_oneSW (i := 3) (by kernel_rfl) rfl (by kernel_rfl) (fun K3 hK3 => ?_)
  go_simp
  refine (HQ.out _ (g0.t ga)).mono ?_
  rintro e w3 ⟨rfl, hG3⟩
  replace ga := ga.t hG3
  refine hK3.out _ _ (b0.keep ga) (fun hS => ?_)
  try simp only [Act.put, List.getElem_toArray, List.getElem_cons_zero, List.getElem_cons_succ, List.setIfInBounds_toArray, List.set_cons_zero, List.set_cons_succ]
  refine wpAnyY_oneW (i := 4) (by kernel_rfl) rfl (by kernel_rfl) (by kernel_rfl) (fun K4 hK4 => ?_)
  go_simp
  refine hK4.out _ _ ?_
  try simp only [Act.put, List.getElem_toArray, List.getElem_cons_zero, List.getElem_cons_succ, List.setIfInBounds_toArray, List.set_cons_zero, List.set_cons_succ]
  refine wpAnyY_done (by kernel_rfl) ?_ _
  have gz := g0.t ga
  have bz : Blk w3 w.heap.size 35 REL := b0.keep ga
  clear b0 hS HM HQ
  by_cases h0 : z = 0
  · have HF := Lib.hid (fun v w' a o => HOK.out v w' h0 a o)
    have HX := Lib.hid (HW.out h0 _ gz)
    subst h0
    clear HOK HER HW
    go_upto_region 4 with fail
    refine wp_region_lit ?_
    refine wpList_load35 w.heap.size 2 HIS.out rfl rfl rfl bz ?_
    try simp only [Act.put, List.getElem_toArray, List.getElem_cons_zero, List.getElem_cons_succ, List.setIfInBounds_toArray, List.set_cons_zero, List.set_cons_succ]
    go_wp2_with (go_at_call 59; refine (HX.out).mono ?_; rintro e w4 ⟨v, rfl, ho, g4⟩)
    exact HF.out _ _ (gz.t g4) ho
  · have HF := Lib.hid (fun w' a => HER.out z w' rfl h0 a)
    clear HOK HER HW
    go_wp2
    exact HF.out _ gz
end
end Go.Proofs.YtcekdljjmfkacaaGreat
