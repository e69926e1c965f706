import Derived.Test.YtcekdljjmfkacaaNc
set_option linter.unusedSimpArgs false
set_option linter.unusedVariables false
namespace Go.Proofs.Ytcekdljjmfkacaa
open Go.RowKit
attribute [local go_sem] Oper.semAt_some
set_option maxHeartbeats 1000000 in
theorem isInside_any (s l : Sk) (w : World) : Calls Try.prog 80 #[.agg s.v, .agg l.v] w fun e w' => e = .returned (.bool (skIn s l)) ∧ G w w' := by
  have HA := Lib.hid (fun W : World => and_any s l W)
  have HEQ := Lib.hid (fun W : World => eqSky (s.both l) s W)
  obtain ⟨g0, b0, b1⟩ := w2_spec w s.v l.v 102 102
  go_enter Try.func80, Try.ntmps80
  go_wp2_with fail
  generalize (w.alloc (.cells s.v 102)).alloc (.cells l.v 102) = w1 at *
  have hSk : ∀ W', G w1 W' → Blk W' w.heap.size 102 s.v ∧ Blk W' (w.heap.size + 1) 102 l.v := fun W' hW => ⟨b0.keep hW, b1.keep hW⟩
  refine wp_region_Y (S := fun W' => Blk W' w.heap.size 102 s.v ∧ Blk W' (w.heap.size + 1) 102 l.v) 5 6 rfl (by kernel_rfl) (hSk _ (G.rf _).d) (fun hS => ?_)
  refine wpAnyY_take (i := 0) (v := .agg s.v) rfl (by kernel_rfl) (by kernel_rfl) (by kernel_rfl) (by kernel_rfl) (fun _ _ _ h => h) (Or.inl ⟨by kernel_rfl, ?_⟩) hS ?_
  · intro w' hSw; exact load102 w' w.heap.size 2 _ _ rfl (by kernel_rfl) hSw.1
  try simp only [Act.put, List.getElem_toArray, List.getElem_cons_zero, List.getElem_cons_succ, List.setIfInBounds_toArray, List.set_cons_zero, List.set_cons_succ]
  refine wpAnyY_take (i := 1) (v := .agg l.v) rfl (by kernel_rfl) (by kernel_rfl) (by kernel_rfl) (by kernel_rfl) (fun _ _ _ h => h) (Or.inl ⟨by kernel_rfl, ?_⟩) hS ?_
  · intro w' hSw; exact load102 w' (w.heap.size + 1) 3 _ _ rfl (by kernel_rfl) hSw.2
  try simp only [Act.put, List.getElem_toArray, List.getElem_cons_zero, List.getElem_cons_succ, List.setIfInBounds_toArray, List.set_cons_zero, List.set_cons_succ]
  refine wpAnyY_take (i := 3) (v := .agg s.v) rfl (by kernel_rfl) (by kernel_rfl) (by kernel_rfl) (by kernel_rfl) (fun _ _ _ h => h) (Or.inl ⟨by kernel_rfl, ?_⟩) hS ?_
  · intro w' hSw; exact load102 w' w.heap.size 2 _ _ rfl (by kernel_rfl) hSw.1
  try simp only [Act.put, List.getElem_toArray, List.getElem_cons_zero, List.getElem_cons_succ, List.setIfInBounds_toArray, List.set_cons_zero, List.set_cons_succ]
  refine wpAnyY_oneSW (i := 2) (by kernel_rfl) rfl (by kernel_rfl) (fun K2 hK2 => ?_)
  go_simp
  refine (HA.out _).mono ?_
  rintro e w5 ⟨rfl, hG5⟩
  have gd := (G.rf w1).d.t hG5
  refine hK2.out _ _ (hSk _ gd) (fun hS => ?_)
  try simp only [Act.put, List.getElem_toArray, List.getElem_cons_zero, List.getElem_cons_succ, List.setIfInBounds_toArray, List.set_cons_zero, List.set_cons_succ]
  have heq := HEQ.out
  generalize (s.both l).v = bv at *
  obtain ⟨eb, hE⟩ : ∃ eb, eb = skIn s l := ⟨_, rfl⟩
  replace heq : ∀ W : World, (binOp .eql 102 (.agg bv) (.agg s.v)).run Try.prog W = .ok (.bool eb) W := fun W => by rw [hE]; exact heq W
  have HEB := Lib.hid hE
  clear hE
  refine wpAnyY_take (i := 4) (v := ?_) rfl (by kernel_rfl) (by kernel_rfl) (by kernel_rfl) (by kernel_rfl) (fun _ _ _ h => h) (Or.inl ⟨by kernel_rfl, ?_⟩) hS ?_
  rotate_left
  · intro w' hSw; go_simp; with_reducible rfl
  try simp only [Act.put, List.getElem_toArray, List.getElem_cons_zero, List.getElem_cons_succ, List.setIfInBounds_toArray, List.set_cons_zero, List.set_cons_succ]
  refine wpAnyY_oneW (i := 5) (by kernel_rfl) rfl (by kernel_rfl) (by kernel_rfl) (fun K5 hK5 => ?_)
  go_simp
  refine hK5.out _ _ ?_
  try simp only [Act.put, List.getElem_toArray, List.getElem_cons_zero, List.getElem_cons_succ, List.setIfInBounds_toArray, List.set_cons_zero, List.set_cons_succ]
  refine wpAnyY_done (by kernel_rfl) ?_ _
  clear hS hSk hK2 hK5
  go_wp2_with fail
  go_ret
  exact ⟨by rw [← HEB.out]; rfl, g0.t gd⟩
theorem isOutsideS_any (s l : Sk) (w : World) : Calls Try.prog 97 #[.agg s.v, .agg l.v] w fun e w' => e = .returned (.bool (skOut s l)) ∧ G w w' := by
  have HA := Lib.hid (fun W : World => and_any s l W)
  have HE := Lib.hid (fun W : World => isEmpty_any (s.both l) W)
  obtain ⟨g0, b0, b1⟩ := w2_spec w s.v l.v 102 102
  go_enter Try.func97, Try.ntmps97
  go_upto_region 1 with fail
  generalize (w.alloc (.cells s.v 102)).alloc (.cells l.v 102) = w1 at *
  refine wp_region_lit ?_
  refine wpList_load102 w.heap.size 2 rfl rfl rfl b0 ?_
  try simp only [Act.put, List.getElem_toArray, List.getElem_cons_zero, List.getElem_cons_succ, List.setIfInBounds_toArray, List.set_cons_zero, List.set_cons_succ]
  refine wpList_load102 (w.heap.size + 1) 3 rfl rfl rfl b1 ?_
  try simp only [Act.put, List.getElem_toArray, List.getElem_cons_zero, List.getElem_cons_succ, List.setIfInBounds_toArray, List.set_cons_zero, List.set_cons_succ]
  go_wp2_with fail
  refine (HA.out _).mono ?_
  rintro e w5 ⟨rfl, hG5⟩
  go_wp2_with fail
  refine (HE.out _).mono ?_
  rintro e w6 ⟨rfl, hG6⟩
  go_wp2_with fail
  go_ret
  exact ⟨rfl, (g0.t hG5).t hG6⟩
end Go.Proofs.Ytcekdljjmfkacaa
