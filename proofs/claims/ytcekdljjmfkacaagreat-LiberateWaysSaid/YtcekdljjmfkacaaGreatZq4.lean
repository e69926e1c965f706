import Derived.Test.YtcekdljjmfkacaaGreatXj
import Derived.Test.YtcekdljjmfkacaaGreatXc
set_option linter.unusedSimpArgs false
set_option linter.unusedVariables false
namespace Go.Proofs.YtcekdljjmfkacaaGreat
open Go.RowKit Go.Shelf
attribute [local go_sem] Oper.semAt_some wide_fn wide_dep wideR_fn wideR_dep
section
variable (hi mi Z : Int) (b1 b2 : Bool) (REL : Array Value) (w : World)
set_option maxRecDepth 100000 in
set_option maxHeartbeats 4000000 in
theorem Way_err (hIs : IsRel REL) (hZ : Z ≠ 0) (hI : ∀ W, Calls Tryz.prog 39 #[.agg REL, .int .i64 hi] W fun e w' => e = .returned (.bool b1) ∧ G W w')
    (hQ : ∀ W, G w W → Calls Tryz.prog 38 #[.agg REL, .bool b1] W fun e w' => e = .returned (.int .i64 Z) ∧ G W w') :
    Calls Tryz.prog 11 #[.agg REL, .int .i64 hi] w fun e w' => e = .returned (.tuple #[.slice none 0 0, .int .i64 Z]) ∧ G w w' := by
  have HIS := Lib.hid hIs
  have HI := Lib.hid hI
  have HQ := Lib.hid hQ
  have HPP : Hid (∀ w', G w w' → (fun e w' => e = .returned (.tuple #[.slice none 0 0, .int .i64 Z]) ∧ G w w' : Ending → World → Prop) (.returned (.tuple #[.slice none 0 0, .int .i64 Z])) w') := fun w' a => ⟨rfl, a⟩
  generalize (fun e w' => e = .returned (.tuple #[.slice none 0 0, .int .i64 Z]) ∧ G w w' : Ending → World → Prop) = PP at *
  clear hIs hI hQ
  have g0 : G w (w.alloc (.cells REL 35)) := (G.rf _).a _
  have b0 : Blk (w.alloc (.cells REL 35)) w.heap.size 35 REL := Blk.new w 35 REL
  go_enter Tryz.func11, Tryz.ntmps11
  go_upto_region 1 with fail
  change Code.wp _ _ _ _ (w.alloc (.cells REL 35))
  generalize w.alloc (.cells REL 35) = w1 at *
  have hSk : ∀ W', G w1 W' → Blk W' w.heap.size 35 REL := fun W' hW => b0.keep hW
  refine wp_region_Y (S := fun W' => Blk W' w.heap.size 35 REL) 5 6 rfl (by kernel_rfl) (hSk _ (G.rf _).d) (fun hS => ?_)
  have ga := (G.rf w1).d
  refine wpAnyY_take (i := 0) (v := .agg REL) rfl (by kernel_rfl) (by kernel_rfl) (by kernel_rfl) (by kernel_rfl) (fun _ _ _ h => h) (Or.inl ⟨by kernel_rfl, ?_⟩) hS ?_
  · intro w' hSw; exact load46o w' w.heap.size 2 HIS.out _ _ rfl (by kernel_rfl) hSw
  try simp only [Act.put, List.getElem_toArray, List.getElem_cons_zero, List.getElem_cons_succ, List.setIfInBounds_toArray, List.set_cons_zero, List.set_cons_succ]
  refine wpAnyY_take (i := 1) (v := .agg REL) rfl (by kernel_rfl) (by kernel_rfl) (by kernel_rfl) (by kernel_rfl) (fun _ _ _ h => h) (Or.inl ⟨by kernel_rfl, ?_⟩) hS ?_
  · intro w' hSw; exact load46o w' w.heap.size 2 HIS.out _ _ rfl (by kernel_rfl) hSw
  try simp only [Act.put, List.getElem_toArray, List.getElem_cons_zero, List.getElem_cons_succ, List.setIfInBounds_toArray, List.set_cons_zero, List.set_cons_succ]
  refine wpAnyY_take (i := 2) (v := ?_) rfl (by kernel_rfl) (by kernel_rfl) (by kernel_rfl) (by kernel_rfl) (fun _ _ _ h => h) (Or.inl ⟨by kernel_rfl, ?_⟩) hS ?_
  rotate_left
  · intro w' hSw; go_simp; with_reducible rfl
  try simp only [Act.put, List.getElem_toArray, List.getElem_cons_zero, List.getElem_cons_succ, List.setIfInBounds_toArray, List.set_cons_zero, List.set_cons_succ]
  refine wpAnyY_oneSW (i := 3) (by kernel_rfl) rfl (by kernel_rfl) (fun K3 hK3 => ?_)
  go_simp
  refine (HI.out _).mono ?_
  rintro e w2 ⟨rfl, hG2⟩
  replace ga := ga.t hG2
  refine hK3.out _ _ (hSk _ ga) (fun hS => ?_)
  clear hK3
  try simp only [Act.put, List.getElem_toArray, List.getElem_cons_zero, List.getElem_cons_succ, List.setIfInBounds_toArray, List.set_cons_zero, List.set_cons_succ]
  refine wpAnyY_oneSW (i := 4) (by kernel_rfl) rfl (by kernel_rfl) (fun K4 hK4 => ?_)
  go_simp
  refine (HQ.out _ (g0.t ga)).mono ?_
  rintro e w3 ⟨rfl, hG3⟩
  replace ga := ga.t hG3
  refine hK4.out _ _ (hSk _ ga) (fun hS => ?_)
  clear hK4
  try simp only [Act.put, List.getElem_toArray, List.getElem_cons_zero, List.getElem_cons_succ, List.setIfInBounds_toArray, List.set_cons_zero, List.set_cons_succ]
  refine wpAnyY_oneW (i := 5) (by kernel_rfl) rfl (by kernel_rfl) (by kernel_rfl) (fun K5 hK5 => ?_)
  go_simp
  refine hK5.out _ _ ?_
  clear hK5
  try simp only [Act.put, List.getElem_toArray, List.getElem_cons_zero, List.getElem_cons_succ, List.setIfInBounds_toArray, List.set_cons_zero, List.set_cons_succ]
  refine wpAnyY_done (by kernel_rfl) ?_ _
  have hz1 : (Z == 0) = false := by simpa using hZ
  have hz2 : (Z != 0) = true := by simpa using hZ
  have HF := Lib.hid (HPP.out _ (g0.t ga))
  clear hS HPP HQ HI b0
  go_wp2_with fail
  exact HF.out
set_option maxRecDepth 100000 in
set_option maxHeartbeats 4000000 in
theorem Passes_err (hIs : IsRel REL) (hZ : Z ≠ 0) (hI : ∀ W, Calls Tryz.prog 39 #[.agg REL, .int .i64 hi] W fun e w' => e = .returned (.bool b1) ∧ G W w') (hM : ∀ W, Calls Tryz.prog 43 #[.int .i64 mi] W fun e w' => e = .returned (.bool b2) ∧ G W w')
    (hQ : ∀ W, G w W → Calls Tryz.prog 38 #[.agg REL, .bool (b1 && b2)] W fun e w' => e = .returned (.int .i64 Z) ∧ G W w') :
    Calls Tryz.prog 13 #[.agg REL, .int .i64 hi, .int .i64 mi] w fun e w' => e = .returned (.tuple #[.slice none 0 0, .int .i64 Z]) ∧ G w w' := by
  have HIS := Lib.hid hIs
  have HI := Lib.hid hI
  have HM := Lib.hid hM
  have HQ := Lib.hid hQ
  have HPP : Hid (∀ w', G w w' → (fun e w' => e = .returned (.tuple #[.slice none 0 0, .int .i64 Z]) ∧ G w w' : Ending → World → Prop) (.returned (.tuple #[.slice none 0 0, .int .i64 Z])) w') := fun w' a => ⟨rfl, a⟩
  generalize (fun e w' => e = .returned (.tuple #[.slice none 0 0, .int .i64 Z]) ∧ G w w' : Ending → World → Prop) = PP at *
  clear hIs hI hQ hM
  have g0 : G w (w.alloc (.cells REL 35)) := (G.rf _).a _
  have b0 : Blk (w.alloc (.cells REL 35)) w.heap.size 35 REL := Blk.new w 35 REL
  go_enter Tryz.func13, Tryz.ntmps13
  go_upto_region 1 with fail
  change Code.wp _ _ _ _ (w.alloc (.cells REL 35))
  generalize w.alloc (.cells REL 35) = w1 at *
  have hSk : ∀ W', G w1 W' → Blk W' w.heap.size 35 REL := fun W' hW => b0.keep hW
  refine wp_region_Y (S := fun W' => Blk W' w.heap.size 35 REL) 9 10 rfl (by kernel_rfl) (hSk _ (G.rf _).d) (fun hS => ?_)
  have ga := (G.rf w1).d
  refine wpAnyY_take (i := 0) (v := .agg REL) rfl (by kernel_rfl) (by kernel_rfl) (by kernel_rfl) (by kernel_rfl) (fun _ _ _ h => h) (Or.inl ⟨by kernel_rfl, ?_⟩) hS ?_
  · intro w' hSw; exact load46o w' w.heap.size 3 HIS.out _ _ rfl (by kernel_rfl) hSw
  try simp only [Act.put, List.getElem_toArray, List.getElem_cons_zero, List.getElem_cons_succ, List.setIfInBounds_toArray, List.set_cons_zero, List.set_cons_succ]
  refine wpAnyY_take (i := 1) (v := .agg REL) rfl (by kernel_rfl) (by kernel_rfl) (by kernel_rfl) (by kernel_rfl) (fun _ _ _ h => h) (Or.inl ⟨by kernel_rfl, ?_⟩) hS ?_
  · intro w' hSw; exact load46o w' w.heap.size 3 HIS.out _ _ rfl (by kernel_rfl) hSw
  try simp only [Act.put, List.getElem_toArray, List.getElem_cons_zero, List.getElem_cons_succ, List.setIfInBounds_toArray, List.set_cons_zero, List.set_cons_succ]
  refine wpAnyY_take (i := 2) (v := ?_) rfl (by kernel_rfl) (by kernel_rfl) (by kernel_rfl) (by kernel_rfl) (fun _ _ _ h => h) (Or.inl ⟨by kernel_rfl, ?_⟩) hS ?_
  rotate_left
  · intro w' hSw; go_simp; with_reducible rfl
  try simp only [Act.put, List.getElem_toArray, List.getElem_cons_zero, List.getElem_cons_succ, List.setIfInBounds_toArray, List.set_cons_zero, List.set_cons_succ]
  refine wpAnyY_oneSW (i := 3) (by kernel_rfl) rfl (by kernel_rfl) (fun K3 hK3 => ?_)
  go_simp
  refine (HI.out _).mono ?_
  rintro e w2 ⟨rfl, hG2⟩
  replace ga := ga.t hG2
  refine hK3.out _ _ (hSk _ ga) (fun hS => ?_)
  clear hK3
  try simp only [Act.put, List.getElem_toArray, List.getElem_cons_zero, List.getElem_cons_succ, List.setIfInBounds_toArray, List.set_cons_zero, List.set_cons_succ]
  refine wpAnyY_take (i := 4) (v := ?_) rfl (by kernel_rfl) (by kernel_rfl) (by kernel_rfl) (by kernel_rfl) (fun _ _ _ h => h) (Or.inl ⟨by kernel_rfl, ?_⟩) hS ?_
  rotate_left
  · intro w' hSw; go_simp; with_reducible rfl
  try simp only [Act.put, List.getElem_toArray, List.getElem_cons_zero, List.getElem_cons_succ, List.setIfInBounds_toArray, List.set_cons_zero, List.set_cons_succ]
  cases b1
  ·
    refine wpAnyY_take (i := 5) (v := undef) rfl (by kernel_rfl) (by kernel_rfl) (by kernel_rfl) (by kernel_rfl) (fun _ _ _ h => h) (Or.inr ⟨by kernel_rfl, rfl⟩) hS ?_
    try simp only [Act.put, List.getElem_toArray, List.getElem_cons_zero, List.getElem_cons_succ, List.setIfInBounds_toArray, List.set_cons_zero, List.set_cons_succ]
    refine wpAnyY_take (i := 6) (v := undef) rfl (by kernel_rfl) (by kernel_rfl) (by kernel_rfl) (by kernel_rfl) (fun _ _ _ h => h) (Or.inr ⟨by kernel_rfl, rfl⟩) hS ?_
    try simp only [Act.put, List.getElem_toArray, List.getElem_cons_zero, List.getElem_cons_succ, List.setIfInBounds_toArray, List.set_cons_zero, List.set_cons_succ]
    refine wpAnyY_take (i := 7) (v := ?_) rfl (by kernel_rfl) (by kernel_rfl) (by kernel_rfl) (by kernel_rfl) (fun _ _ _ h => h) (Or.inl ⟨by kernel_rfl, ?_⟩) hS ?_
    rotate_left
    · intro w' hSw; go_simp; with_reducible rfl
    try simp only [Act.put, List.getElem_toArray, List.getElem_cons_zero, List.getElem_cons_succ, List.setIfInBounds_toArray, List.set_cons_zero, List.set_cons_succ]
    refine wpAnyY_oneSW (i := 8) (by kernel_rfl) rfl (by kernel_rfl) (fun K8 hK8 => ?_)
    go_simp
    refine (HQ.out _ (g0.t ga)).mono ?_
    rintro e w3 ⟨rfl, hG3⟩
    replace ga := ga.t hG3
    refine hK8.out _ _ (hSk _ ga) (fun hS => ?_)
    clear hK8
    try simp only [Act.put, List.getElem_toArray, List.getElem_cons_zero, List.getElem_cons_succ, List.setIfInBounds_toArray, List.set_cons_zero, List.set_cons_succ]
    refine wpAnyY_oneW (i := 9) (by kernel_rfl) rfl (by kernel_rfl) (by kernel_rfl) (fun K9 hK9 => ?_)
    go_simp
    refine hK9.out _ _ ?_
    clear hK9
    try simp only [Act.put, List.getElem_toArray, List.getElem_cons_zero, List.getElem_cons_succ, List.setIfInBounds_toArray, List.set_cons_zero, List.set_cons_succ]
    refine wpAnyY_done (by kernel_rfl) ?_ _
    have hz1 : (Z == 0) = false := by simpa using hZ
    have hz2 : (Z != 0) = true := by simpa using hZ
    have HF := Lib.hid (HPP.out _ (g0.t ga))
    clear hS HPP HQ HI b0
    go_wp2_with fail
    exact HF.out
  ·
    refine wpAnyY_take (i := 5) (v := ?_) rfl (by kernel_rfl) (by kernel_rfl) (by kernel_rfl) (by kernel_rfl) (fun _ _ _ h => h) (Or.inl ⟨by kernel_rfl, ?_⟩) hS ?_
    rotate_left
    · intro w' hSw; go_simp; with_reducible rfl
    try simp only [Act.put, List.getElem_toArray, List.getElem_cons_zero, List.getElem_cons_succ, List.setIfInBounds_toArray, List.set_cons_zero, List.set_cons_succ]
    refine wpAnyY_oneSW (i := 6) (by kernel_rfl) rfl (by kernel_rfl) (fun K6 hK6 => ?_)
    go_simp
    refine (HM.out _).mono ?_
    rintro e w4 ⟨rfl, hG4⟩
    replace ga := ga.t hG4
    refine hK6.out _ _ (hSk _ ga) (fun hS => ?_)
    clear hK6
    try simp only [Act.put, List.getElem_toArray, List.getElem_cons_zero, List.getElem_cons_succ, List.setIfInBounds_toArray, List.set_cons_zero, List.set_cons_succ]
    refine wpAnyY_take (i := 7) (v := ?_) rfl (by kernel_rfl) (by kernel_rfl) (by kernel_rfl) (by kernel_rfl) (fun _ _ _ h => h) (Or.inl ⟨by kernel_rfl, ?_⟩) hS ?_
    rotate_left
    · intro w' hSw; go_simp; with_reducible rfl
    try simp only [Act.put, List.getElem_toArray, List.getElem_cons_zero, List.getElem_cons_succ, List.setIfInBounds_toArray, List.set_cons_zero, List.set_cons_succ]
    refine wpAnyY_oneSW (i := 8) (by kernel_rfl) rfl (by kernel_rfl) (fun K8 hK8 => ?_)
    go_simp
    refine (HQ.out _ (g0.t ga)).mono ?_
    rintro e w3 ⟨rfl, hG3⟩
    replace ga := ga.t hG3
    refine hK8.out _ _ (hSk _ ga) (fun hS => ?_)
    clear hK8
    try simp only [Act.put, List.getElem_toArray, List.getElem_cons_zero, List.getElem_cons_succ, List.setIfInBounds_toArray, List.set_cons_zero, List.set_cons_succ]
    refine wpAnyY_oneW (i := 9) (by kernel_rfl) rfl (by kernel_rfl) (by kernel_rfl) (fun K9 hK9 => ?_)
    go_simp
    refine hK9.out _ _ ?_
    clear hK9
    try simp only [Act.put, List.getElem_toArray, List.getElem_cons_zero, List.getElem_cons_succ, List.setIfInBounds_toArray, List.set_cons_zero, List.set_cons_succ]
    refine wpAnyY_done (by kernel_rfl) ?_ _
    have hz1 : (Z == 0) = false := by simpa using hZ
    have hz2 : (Z != 0) = true := by simpa using hZ
    have HF := Lib.hid (HPP.out _ (g0.t ga))
    clear hS HPP HQ HI b0
    go_wp2_with fail
    exact HF.out
/-- a place, as the program asks for it, for any map -/
def placeW (cols : Int) (el : Nat) (x y : Int) : Bool := isInB x 0 (IntKind.i64.wrap (cols - 1)) && isInB y 0 ((el : Int) - 1)
theorem lPlace_w (north cols lofts wrong x y : Int) (ea : Option Addr) (el ec : Nat) (s : Value) (w : World) (hel : el ≤ 9223372036854775807) :
    Calls Tryz.prog 49 #[.agg #[.int .i64 north, .int .i64 cols, .slice ea el ec, .int .i64 lofts, s, .int .i64 wrong], .agg #[.int .i64 x, .int .i64 y]] w fun e w' =>
    e = .returned (.bool (placeW cols el x y)) ∧ G w w' := by
  obtain ⟨cw, hcw⟩ : ∃ cw, cw = IntKind.i64.wrap (cols - 1) := ⟨_, rfl⟩
  have x1 : IntKind.i64.wrap (cols - 1) = cw := hcw.symm
  have x2 : IntKind.i64.wrap ((el : Int) - 1) = el - 1 := IntWalk.i64_in _ (by omega)
  have g0 : G w ((w.alloc (.cells #[.int .i64 north, .int .i64 cols, .slice ea el ec, .int .i64 lofts, s, .int .i64 wrong] 25)).alloc (.cells #[.int .i64 x, .int .i64 y] 27)) := ((G.rf _).a _).a _
  have b0 : Blk ((w.alloc (.cells #[.int .i64 north, .int .i64 cols, .slice ea el ec, .int .i64 lofts, s, .int .i64 wrong] 25)).alloc (.cells #[.int .i64 x, .int .i64 y] 27)) w.heap.size 25 _ := (Blk.new w _ _).alloc _
  have b1 : Blk ((w.alloc (.cells #[.int .i64 north, .int .i64 cols, .slice ea el ec, .int .i64 lofts, s, .int .i64 wrong] 25)).alloc (.cells #[.int .i64 x, .int .i64 y] 27)) (w.heap.size + 1) 27 _ := Blk.new1 w _ _ _
  have HU := Lib.hid (fun (W : World) => lUpTo_any x cw W)
  have HV := Lib.hid (fun (W : World) => lUpTo_any y ((el : Int) - 1) W)
  have he : placeW cols el x y = (isInB x 0 cw && isInB y 0 ((el : Int) - 1)) := by unfold placeW; rw [x1]
  rw [he]
  clear he hcw
  generalize isInB x 0 cw = A at *
  generalize isInB y 0 ((el : Int) - 1) = B at *
  cases A
  all_goals
    go_enter Tryz.func49, Tryz.ntmps49
    go_wp2_with (first | (go_at_call 50; refine (HU.out _).mono ?_; rintro e w1 ⟨rfl, hG1⟩; clear HU; replace b0 := b0.keep hG1; replace b1 := b1.keep hG1; replace g0 := g0.t hG1; clear hG1; have m2 := b0.cell 2; have p1 := b1.cell 1; have l0 := b0.lt; have l1 := b1.lt) | (go_at_call 50; refine (HV.out _).mono ?_; rintro e w2 ⟨rfl, hG1⟩; replace g0 := g0.t hG1; clear hG1))
    go_ret
    exact ⟨rfl, g0⟩
theorem rPlace_w (north cols lofts wrong x y : Int) (ea : Option Addr) (el ec : Nat) (s : Value) (w : World) (hel : el ≤ 9223372036854775807) :
    Calls Tryz.prog 53 #[.agg #[.int .i64 north, .int .i64 cols, .slice ea el ec, .int .i64 lofts, s, .int .i64 wrong], .agg #[.int .i64 x, .int .i64 y]] w fun e w' =>
    e = .returned (.bool (placeW cols el x y)) ∧ G w w' := by
  obtain ⟨cw, hcw⟩ : ∃ cw, cw = IntKind.i64.wrap (cols - 1) := ⟨_, rfl⟩
  have x1 : IntKind.i64.wrap (cols - 1) = cw := hcw.symm
  have x2 : IntKind.i64.wrap ((el : Int) - 1) = el - 1 := IntWalk.i64_in _ (by omega)
  have he : placeW cols el x y = (isInB x 0 cw && isInB y 0 ((el : Int) - 1)) := by unfold placeW; rw [x1]
  rw [he]
  clear he hcw
  have g0 : G w ((w.alloc (.cells #[.int .i64 north, .int .i64 cols, .slice ea el ec, .int .i64 lofts, s, .int .i64 wrong] 25)).alloc (.cells #[.int .i64 x, .int .i64 y] 27)) := ((G.rf _).a _).a _
  have b0 : Blk ((w.alloc (.cells #[.int .i64 north, .int .i64 cols, .slice ea el ec, .int .i64 lofts, s, .int .i64 wrong] 25)).alloc (.cells #[.int .i64 x, .int .i64 y] 27)) w.heap.size 25 _ := (Blk.new w _ _).alloc _
  have b1 : Blk ((w.alloc (.cells #[.int .i64 north, .int .i64 cols, .slice ea el ec, .int .i64 lofts, s, .int .i64 wrong] 25)).alloc (.cells #[.int .i64 x, .int .i64 y] 27)) (w.heap.size + 1) 27 _ := Blk.new1 w _ _ _
  have HU := Lib.hid (fun (W : World) => within_any x 0 cw W)
  have HV := Lib.hid (fun (W : World) => within_any y 0 ((el : Int) - 1) W)
  generalize isInB x 0 cw = A at *
  generalize isInB y 0 ((el : Int) - 1) = B at *
  cases A
  all_goals
    go_enter Tryz.func53, Tryz.ntmps53
    go_wp2_with (first | (go_at_call 83; refine (HU.out _).mono ?_; rintro e w1 ⟨rfl, hG1⟩; clear HU; replace b0 := b0.keep hG1; replace b1 := b1.keep hG1; replace g0 := g0.t hG1; clear hG1; have m2 := b0.cell 2; have p1 := b1.cell 1; have l0 := b0.lt; have l1 := b1.lt) | (go_at_call 83; refine (HV.out _).mono ?_; rintro e w2 ⟨rfl, hG1⟩; replace g0 := g0.t hG1; clear hG1))
    go_ret
    exact ⟨rfl, g0⟩
end
end Go.Proofs.YtcekdljjmfkacaaGreat
