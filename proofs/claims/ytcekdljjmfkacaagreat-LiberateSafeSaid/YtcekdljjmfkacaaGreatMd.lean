import Derived.Test.YtcekdljjmfkacaaGreatLr
set_option linter.unusedSimpArgs false
set_option linter.unusedVariables false
namespace Go.Proofs.YtcekdljjmfkacaaGreat
open Go.RowKit
attribute [local go_sem] Oper.semAt_some
def exFronts : Array Value := #[.int .i64 0, .int .i64 0, .int .i64 0, .int .i64 3, .int .i64 0, .int .i64 2, .int .i64 0, .int .i64 30, .int .i64 10, .int .i64 50, .int .i64 0, .int .i64 25, .int .i64 1, .int .i64 1, .int .i64 0, .int .i64 3, .int .i64 0, .int .i64 2, .int .i64 10, .int .i64 50, .int .i64 10, .int .i64 50, .int .i64 0, .int .i64 25, .int .i64 1, .int .i64 1, .int .i64 1, .int .i64 1, .int .i64 0, .int .i64 0, .int .i64 45, .int .i64 60, .int .i64 0, .int .i64 999, .int .i64 0, .int .i64 999]
def R13 (j : Nat) (v : Value) (W : World) : Prop :=
  (j = 0 → ∃ gE gS, v = .agg #[.int .i64 1000, .int .i64 4, .slice (some ⟨gE, 0, none⟩) 3 3, .int .i64 2, .slice (some ⟨gS, 0, none⟩) 4 4, .int .i64 0] ∧ Blk W gE 3 #[.int .i64 800, .int .i64 700, .int .i64 600] ∧ Blk W gS 135 exCells) ∧
  (j = 3 → ∃ g, v = .slice (some ⟨g, 0, none⟩) 2 2 ∧ Blk W g 27 #[.int .i64 3, .int .i64 0, .int .i64 2, .int .i64 2]) ∧
  (j = 27 → ∃ g, v = .slice (some ⟨g, 0, none⟩) 3 3 ∧ Blk W g 71 exFronts)
theorem R13_keep {j : Nat} {v : Value} {W W' : World} (h : R13 j v W) (k : G W W') : R13 j v W' :=
  ⟨fun e => (h.1 e).imp fun gE ⟨gS, a, b, c⟩ => ⟨gS, a, b.keep k, c.keep k⟩, fun e => (h.2.1 e).imp fun g ⟨a, b⟩ => ⟨a, b.keep k⟩, fun e => (h.2.2 e).imp fun g ⟨a, b⟩ => ⟨a, b.keep k⟩⟩
def exRel (gE gS gH gF : Nat) : Array Value := #[.int .i64 1000, .int .i64 4, .slice (some ⟨gE, 0, none⟩) 3 3, .int .i64 2, .slice (some ⟨gS, 0, none⟩) 4 4, .int .i64 0, .int .i64 0, .int .i64 0, .slice (some ⟨gH, 0, none⟩) 2 2, .int .i64 400, .int .i64 800, .slice (some ⟨gF, 0, none⟩) 3 3, .int .i64 40, .int .i64 8, .int .i64 30, .int .i64 2, .int .i64 110]
def RExPost (w : World) (e : Ending) (w' : World) : Prop := ∃ gE gS gH gF, e = .returned (.agg (exRel gE gS gH gF)) ∧ IntsAt w' (some ⟨gE, 0, none⟩) exEast ∧ SvsAt w' (some ⟨gS, 0, none⟩) exSvs ∧ Blk w' gH 27 #[.int .i64 3, .int .i64 0, .int .i64 2, .int .i64 2] ∧ Blk w' gF 71 exFronts ∧ G w w'
theorem wp_store46 {o : Oper} {a : Act} {W : World} {K : Act → World → Prop} {Q : Exit → Act → World → Prop} (g t s : Nat) {OLD REL : Array Value} (hO : IsRel OLD) (hR : IsRel REL) (ho : o.op = .store 35 (.tmp t) (.tmp s)) (hv : a.eval (.tmp t) = .pointer (some ⟨g, 0, none⟩)) (hs : a.eval (.tmp s) = .agg REL) (hB : Blk W g 35 OLD)
    (hk : ∀ W2, Blk W2 g 35 REL → (∀ b, b ≠ g → W2.heap[b]? = W.heap[b]?) → (∀ w0 : World, w0.heap.size ≤ g → G w0 W → G w0 W2) → K (a.put o.dst undef) W2) : Oper.wp Tryz.prog o a W K Q := by
  obtain ⟨W2, h1, h2, h3, h4⟩ := store46 W g t s hO hR o a.eval ho hv hs hB
  unfold Oper.wp
  rw [h1]
  exact hk W2 h2 h3 h4
theorem Blk.apart {W W2 : World} {b g : Nat} {t t2 : TypeId} {cs cs2 : Array Value} (hb : Blk W b t cs) (hg : Blk W g t2 cs2) (ht : t ≠ t2) (hF : ∀ b, b ≠ g → W2.heap[b]? = W.heap[b]?) : Blk W2 b t cs := by
  have : b ≠ g := fun e => by
    subst e
    have := hb.symm.trans hg
    simp only [Option.some.injEq, Obj.cells.injEq] at this
    exact ht this.2.1
  unfold Blk at *
  rw [hF b this]
  exact hb
theorem ex_ints {W : World} {g : Nat} (h : Blk W g 3 #[.int .i64 800, .int .i64 700, .int .i64 600]) : IntsAt W (some ⟨g, 0, none⟩) exEast := .inr ⟨_, 0, rfl, h.lt, fun k hk => by
  have e := fun o => h.cell o
  match k, hk with
  | 0, _ => exact e _
  | 1, _ => exact e _
  | 2, _ => exact e _⟩
theorem ex_svs {W : World} {g : Nat} (h : Blk W g 135 exCells) : SvsAt W (some ⟨g, 0, none⟩) exSvs := .inr ⟨_, 0, rfl, h.lt, fun k hk => by
  have e := fun o => h.cell o
  match k, hk with
  | 0, _ => exact ⟨e _, e _, e _, e _, e _, e _, e _, e _, e _, e _⟩
  | 1, _ => exact ⟨e _, e _, e _, e _, e _, e _, e _, e _, e _, e _⟩
  | 2, _ => exact ⟨e _, e _, e _, e _, e _, e _, e _, e _, e _, e _⟩
  | 3, _ => exact ⟨e _, e _, e _, e _, e _, e _, e _, e _, e _, e _⟩⟩
set_option maxRecDepth 100000 in
set_option maxHeartbeats 4000000 in
theorem Example_blk (w : World) : Calls Tryz.prog 63 #[] w fun e w' => ∃ gE gS, e = .returned (.agg #[.int .i64 1000, .int .i64 4, .slice (some ⟨gE, 0, none⟩) 3 3, .int .i64 2, .slice (some ⟨gS, 0, none⟩) 4 4, .int .i64 0]) ∧ G w w' ∧ Blk w' gE 3 #[.int .i64 800, .int .i64 700, .int .i64 600] ∧ Blk w' gS 135 exCells := by
  go_enter Tryz.func63, Tryz.ntmps63
  go_wp2
  have B0 := ((Blk.new w 25 #[.int .i64 1000, .int .i64 4, .slice (some ⟨w.heap.size + 1, 0, none⟩) 3 3, .int .i64 2, .slice (some ⟨w.heap.size + 1 + 1, 0, none⟩) 4 4, .int .i64 0]).alloc (.cells #[.int .i64 800, .int .i64 700, .int .i64 600] 3)).alloc (.cells exCells 135)
  have B1 := (Blk.new1 w (.cells #[.int .i64 1000, .int .i64 4, .slice (some ⟨w.heap.size + 1, 0, none⟩) 3 3, .int .i64 2, .slice (some ⟨w.heap.size + 1 + 1, 0, none⟩) 4 4, .int .i64 0] 25) 3 #[.int .i64 800, .int .i64 700, .int .i64 600]).alloc (.cells exCells 135)
  have B2 := Blk.new2 w (.cells #[.int .i64 1000, .int .i64 4, .slice (some ⟨w.heap.size + 1, 0, none⟩) 3 3, .int .i64 2, .slice (some ⟨w.heap.size + 1 + 1, 0, none⟩) 4 4, .int .i64 0] 25) (.cells #[.int .i64 800, .int .i64 700, .int .i64 600] 3) 135 exCells
  refine bodyPost_ret (res52 _ _ w.heap.size _ _ _ _ _ _ rfl (B0.cell 0) (B0.cell 1) (B0.cell 2) (B0.cell 3) (B0.cell 4) (B0.cell 5)) rfl ?_
  exact ⟨w.heap.size + 1, w.heap.size + 1 + 1, rfl, (((G.rf w).a _).a _).a _, B1, B2⟩
theorem wp_run_skip {P : Program} {o : Oper} {a : Act} {w w2 : World} {K : Act → World → Prop} {Q : Exit → Act → World → Prop} (h : (execOp a.eval o).run P w = .ok .skip w2) (hk : K (a.put o.dst undef) w2) : Oper.wp P o a w K Q := by
  unfold Oper.wp
  rw [h]
  exact hk
set_option maxRecDepth 100000 in
set_option maxHeartbeats 1000000 in
theorem rExample_any (w : World) : Calls Tryz.prog 28 #[] w (RExPost w) := by
  have HE := Lib.hid (fun W : World => Example_blk W)
  obtain ⟨g0, b0, b1⟩ := w2_spec w #[.int .i64 0, .int .i64 0, .slice none 0 0, .int .i64 0, .slice none 0 0, .int .i64 0, .int .i64 0, .int .i64 0, .slice none 0 0, .int .i64 0, .int .i64 0, .slice none 0 0, .int .i64 0, .int .i64 0, .int .i64 0, .int .i64 0, .int .i64 0] #[.int .i64 0, .int .i64 999] 35 30
  go_enter Tryz.func28, Tryz.ntmps28
  go_wp2
  generalize (w.alloc (.cells #[.int .i64 0, .int .i64 0, .slice none 0 0, .int .i64 0, .slice none 0 0, .int .i64 0, .int .i64 0, .int .i64 0, .slice none 0 0, .int .i64 0, .int .i64 0, .slice none 0 0, .int .i64 0, .int .i64 0, .int .i64 0, .int .i64 0, .int .i64 0] 35)).alloc (.cells #[.int .i64 0, .int .i64 999] 30) = w1 at *
  refine wp_region_Y (S := fun W' => Blk W' (w.heap.size + 1) 30 #[.int .i64 0, .int .i64 999]) 30 31 rfl (by kernel_rfl) (b1.keep (G.rf _).d) (fun hS => ?_)
  refine wpAnyY_take (i := 1) (v := ?_) rfl (by kernel_rfl) (by kernel_rfl) (by kernel_rfl) (by kernel_rfl) (fun _ _ _ h => h) (Or.inl ⟨by kernel_rfl, ?_⟩) hS ?_
  rotate_left
  · intro w' hSw; go_simp; with_reducible rfl
  try simp only [Act.put, List.getElem_toArray, List.getElem_cons_zero, List.getElem_cons_succ, List.setIfInBounds_toArray, List.set_cons_zero, List.set_cons_succ]
  refine wpAnyY_take (i := 2) (v := ?_) rfl (by kernel_rfl) (by kernel_rfl) (by kernel_rfl) (by kernel_rfl) (fun _ _ _ h => h) (Or.inl ⟨by kernel_rfl, ?_⟩) hS ?_
  rotate_left
  · intro w' hSw; go_simp; with_reducible rfl
  try simp only [Act.put, List.getElem_toArray, List.getElem_cons_zero, List.getElem_cons_succ, List.setIfInBounds_toArray, List.set_cons_zero, List.set_cons_succ]
  refine wpAnyY_take (i := 4) (v := ?_) rfl (by kernel_rfl) (by kernel_rfl) (by kernel_rfl) (by kernel_rfl) (fun _ _ _ h => h) (Or.inl ⟨by kernel_rfl, ?_⟩) hS ?_
  rotate_left
  · intro w' hSw; go_simp; with_reducible rfl
  try simp only [Act.put, List.getElem_toArray, List.getElem_cons_zero, List.getElem_cons_succ, List.setIfInBounds_toArray, List.set_cons_zero, List.set_cons_succ]
  refine wpAnyY_take (i := 5) (v := ?_) rfl (by kernel_rfl) (by kernel_rfl) (by kernel_rfl) (by kernel_rfl) (fun _ _ _ h => h) (Or.inl ⟨by kernel_rfl, ?_⟩) hS ?_
  rotate_left
  · intro w' hSw; go_simp; with_reducible rfl
  try simp only [Act.put, List.getElem_toArray, List.getElem_cons_zero, List.getElem_cons_succ, List.setIfInBounds_toArray, List.set_cons_zero, List.set_cons_succ]
  refine wpAnyY_take (i := 6) (v := ?_) rfl (by kernel_rfl) (by kernel_rfl) (by kernel_rfl) (by kernel_rfl) (fun _ _ _ h => h) (Or.inl ⟨by kernel_rfl, ?_⟩) hS ?_
  rotate_left
  · intro w' hSw; go_simp; with_reducible rfl
  try simp only [Act.put, List.getElem_toArray, List.getElem_cons_zero, List.getElem_cons_succ, List.setIfInBounds_toArray, List.set_cons_zero, List.set_cons_succ]
  refine wpAnyY_take (i := 7) (v := ?_) rfl (by kernel_rfl) (by kernel_rfl) (by kernel_rfl) (by kernel_rfl) (fun _ _ _ h => h) (Or.inl ⟨by kernel_rfl, ?_⟩) hS ?_
  rotate_left
  · intro w' hSw; go_simp; with_reducible rfl
  try simp only [Act.put, List.getElem_toArray, List.getElem_cons_zero, List.getElem_cons_succ, List.setIfInBounds_toArray, List.set_cons_zero, List.set_cons_succ]
  refine wpAnyY_take (i := 8) (v := ?_) rfl (by kernel_rfl) (by kernel_rfl) (by kernel_rfl) (by kernel_rfl) (fun _ _ _ h => h) (Or.inl ⟨by kernel_rfl, ?_⟩) hS ?_
  rotate_left
  · intro w' hSw; go_simp; with_reducible rfl
  try simp only [Act.put, List.getElem_toArray, List.getElem_cons_zero, List.getElem_cons_succ, List.setIfInBounds_toArray, List.set_cons_zero, List.set_cons_succ]
  refine wpAnyY_take (i := 9) (v := ?_) rfl (by kernel_rfl) (by kernel_rfl) (by kernel_rfl) (by kernel_rfl) (fun _ _ _ h => h) (Or.inl ⟨by kernel_rfl, ?_⟩) hS ?_
  rotate_left
  · intro w' hSw; go_simp; with_reducible rfl
  try simp only [Act.put, List.getElem_toArray, List.getElem_cons_zero, List.getElem_cons_succ, List.setIfInBounds_toArray, List.set_cons_zero, List.set_cons_succ]
  refine wpAnyY_take (i := 10) (v := ?_) rfl (by kernel_rfl) (by kernel_rfl) (by kernel_rfl) (by kernel_rfl) (fun _ _ _ h => h) (Or.inl ⟨by kernel_rfl, ?_⟩) hS ?_
  rotate_left
  · intro w' hSw; go_simp; with_reducible rfl
  try simp only [Act.put, List.getElem_toArray, List.getElem_cons_zero, List.getElem_cons_succ, List.setIfInBounds_toArray, List.set_cons_zero, List.set_cons_succ]
  refine wpAnyY_take (i := 11) (v := ?_) rfl (by kernel_rfl) (by kernel_rfl) (by kernel_rfl) (by kernel_rfl) (fun _ _ _ h => h) (Or.inl ⟨by kernel_rfl, ?_⟩) hS ?_
  rotate_left
  · intro w' hSw; go_simp; with_reducible rfl
  try simp only [Act.put, List.getElem_toArray, List.getElem_cons_zero, List.getElem_cons_succ, List.setIfInBounds_toArray, List.set_cons_zero, List.set_cons_succ]
  refine wpAnyY_take (i := 12) (v := ?_) rfl (by kernel_rfl) (by kernel_rfl) (by kernel_rfl) (by kernel_rfl) (fun _ _ _ h => h) (Or.inl ⟨by kernel_rfl, ?_⟩) hS ?_
  rotate_left
  · intro w' hSw; go_simp; with_reducible rfl
  try simp only [Act.put, List.getElem_toArray, List.getElem_cons_zero, List.getElem_cons_succ, List.setIfInBounds_toArray, List.set_cons_zero, List.set_cons_succ]
  refine wpAnyY_take (i := 13) (v := ?_) rfl (by kernel_rfl) (by kernel_rfl) (by kernel_rfl) (by kernel_rfl) (fun _ _ _ h => h) (Or.inl ⟨by kernel_rfl, ?_⟩) hS ?_
  rotate_left
  · intro w' hSw; go_simp; with_reducible rfl
  try simp only [Act.put, List.getElem_toArray, List.getElem_cons_zero, List.getElem_cons_succ, List.setIfInBounds_toArray, List.set_cons_zero, List.set_cons_succ]
  refine wpAnyY_take (i := 14) (v := ?_) rfl (by kernel_rfl) (by kernel_rfl) (by kernel_rfl) (by kernel_rfl) (fun _ _ _ h => h) (Or.inl ⟨by kernel_rfl, ?_⟩) hS ?_
  rotate_left
  · intro w' hSw; go_simp; with_reducible rfl
  try simp only [Act.put, List.getElem_toArray, List.getElem_cons_zero, List.getElem_cons_succ, List.setIfInBounds_toArray, List.set_cons_zero, List.set_cons_succ]
  refine wpAnyY_take (i := 15) (v := ?_) rfl (by kernel_rfl) (by kernel_rfl) (by kernel_rfl) (by kernel_rfl) (fun _ _ _ h => h) (Or.inl ⟨by kernel_rfl, ?_⟩) hS ?_
  rotate_left
  · intro w' hSw; go_simp; with_reducible rfl
  try simp only [Act.put, List.getElem_toArray, List.getElem_cons_zero, List.getElem_cons_succ, List.setIfInBounds_toArray, List.set_cons_zero, List.set_cons_succ]
  refine wpAnyY_take (i := 16) (v := ?_) rfl (by kernel_rfl) (by kernel_rfl) (by kernel_rfl) (by kernel_rfl) (fun _ _ _ h => h) (Or.inl ⟨by kernel_rfl, ?_⟩) hS ?_
  rotate_left
  · intro w' hSw; go_simp; with_reducible rfl
  try simp only [Act.put, List.getElem_toArray, List.getElem_cons_zero, List.getElem_cons_succ, List.setIfInBounds_toArray, List.set_cons_zero, List.set_cons_succ]
  refine wpAnyY_take (i := 17) (v := ?_) rfl (by kernel_rfl) (by kernel_rfl) (by kernel_rfl) (by kernel_rfl) (fun _ _ _ h => h) (Or.inl ⟨by kernel_rfl, ?_⟩) hS ?_
  rotate_left
  · intro w' hSw; go_simp; with_reducible rfl
  try simp only [Act.put, List.getElem_toArray, List.getElem_cons_zero, List.getElem_cons_succ, List.setIfInBounds_toArray, List.set_cons_zero, List.set_cons_succ]
  refine wpAnyY_take (i := 18) (v := ?_) rfl (by kernel_rfl) (by kernel_rfl) (by kernel_rfl) (by kernel_rfl) (fun _ _ _ h => h) (Or.inl ⟨by kernel_rfl, ?_⟩) hS ?_
  rotate_left
  · intro w' hSw; go_simp; with_reducible rfl
  try simp only [Act.put, List.getElem_toArray, List.getElem_cons_zero, List.getElem_cons_succ, List.setIfInBounds_toArray, List.set_cons_zero, List.set_cons_succ]
  refine wpAnyY_take (i := 19) (v := ?_) rfl (by kernel_rfl) (by kernel_rfl) (by kernel_rfl) (by kernel_rfl) (fun _ _ _ h => h) (Or.inl ⟨by kernel_rfl, ?_⟩) hS ?_
  rotate_left
  · intro w' hSw; go_simp; with_reducible rfl
  try simp only [Act.put, List.getElem_toArray, List.getElem_cons_zero, List.getElem_cons_succ, List.setIfInBounds_toArray, List.set_cons_zero, List.set_cons_succ]
  refine wpAnyY_take (i := 20) (v := ?_) rfl (by kernel_rfl) (by kernel_rfl) (by kernel_rfl) (by kernel_rfl) (fun _ _ _ h => h) (Or.inl ⟨by kernel_rfl, ?_⟩) hS ?_
  rotate_left
  · intro w' hSw; go_simp; with_reducible rfl
  try simp only [Act.put, List.getElem_toArray, List.getElem_cons_zero, List.getElem_cons_succ, List.setIfInBounds_toArray, List.set_cons_zero, List.set_cons_succ]
  refine wpAnyY_take (i := 21) (v := ?_) rfl (by kernel_rfl) (by kernel_rfl) (by kernel_rfl) (by kernel_rfl) (fun _ _ _ h => h) (Or.inl ⟨by kernel_rfl, ?_⟩) hS ?_
  rotate_left
  · intro w' hSw; go_simp; with_reducible rfl
  try simp only [Act.put, List.getElem_toArray, List.getElem_cons_zero, List.getElem_cons_succ, List.setIfInBounds_toArray, List.set_cons_zero, List.set_cons_succ]
  refine wpAnyY_take (i := 22) (v := ?_) rfl (by kernel_rfl) (by kernel_rfl) (by kernel_rfl) (by kernel_rfl) (fun _ _ _ h => h) (Or.inl ⟨by kernel_rfl, ?_⟩) hS ?_
  rotate_left
  · intro w' hSw; go_simp; with_reducible rfl
  try simp only [Act.put, List.getElem_toArray, List.getElem_cons_zero, List.getElem_cons_succ, List.setIfInBounds_toArray, List.set_cons_zero, List.set_cons_succ]
  refine wpAnyY_take (i := 23) (v := ?_) rfl (by kernel_rfl) (by kernel_rfl) (by kernel_rfl) (by kernel_rfl) (fun _ _ _ h => h) (Or.inl ⟨by kernel_rfl, ?_⟩) hS ?_
  rotate_left
  · intro w' hSw; have m0 := hSw.cell 0; have m1 := hSw.cell 1; go_simp; with_reducible rfl
  try simp only [Act.put, List.getElem_toArray, List.getElem_cons_zero, List.getElem_cons_succ, List.setIfInBounds_toArray, List.set_cons_zero, List.set_cons_succ]
  refine wpAnyY_take (i := 24) (v := ?_) rfl (by kernel_rfl) (by kernel_rfl) (by kernel_rfl) (by kernel_rfl) (fun _ _ _ h => h) (Or.inl ⟨by kernel_rfl, ?_⟩) hS ?_
  rotate_left
  · intro w' hSw; have m0 := hSw.cell 0; have m1 := hSw.cell 1; go_simp; with_reducible rfl
  try simp only [Act.put, List.getElem_toArray, List.getElem_cons_zero, List.getElem_cons_succ, List.setIfInBounds_toArray, List.set_cons_zero, List.set_cons_succ]
  refine wpAnyY_take (i := 25) (v := ?_) rfl (by kernel_rfl) (by kernel_rfl) (by kernel_rfl) (by kernel_rfl) (fun _ _ _ h => h) (Or.inl ⟨by kernel_rfl, ?_⟩) hS ?_
  rotate_left
  · intro w' hSw; go_simp; with_reducible rfl
  try simp only [Act.put, List.getElem_toArray, List.getElem_cons_zero, List.getElem_cons_succ, List.setIfInBounds_toArray, List.set_cons_zero, List.set_cons_succ]
  refine wpAnyY_take (i := 26) (v := ?_) rfl (by kernel_rfl) (by kernel_rfl) (by kernel_rfl) (by kernel_rfl) (fun _ _ _ h => h) (Or.inl ⟨by kernel_rfl, ?_⟩) hS ?_
  rotate_left
  · intro w' hSw; go_simp; with_reducible rfl
  try simp only [Act.put, List.getElem_toArray, List.getElem_cons_zero, List.getElem_cons_succ, List.setIfInBounds_toArray, List.set_cons_zero, List.set_cons_succ]
  refine wpAnyY_take (i := 28) (v := ?_) rfl (by kernel_rfl) (by kernel_rfl) (by kernel_rfl) (by kernel_rfl) (fun _ _ _ h => h) (Or.inl ⟨by kernel_rfl, ?_⟩) hS ?_
  rotate_left
  · intro w' hSw; go_simp; with_reducible rfl
  try simp only [Act.put, List.getElem_toArray, List.getElem_cons_zero, List.getElem_cons_succ, List.setIfInBounds_toArray, List.set_cons_zero, List.set_cons_succ]
  have gd := (G.rf w1).d
  refine wpAnyY_perm (fuel := 2) (N := 3) (lF := #[true, true, true, true, true, true, true, true, true, true, true, true, true, true, true, true, true, true, true, true, true, true, true, true, true, true, true, true, true, false, false]) [(0, 3), (3, 6), (27, 30)] [] _ R13 rfl (by kernel_rfl) (by decide) (by decide) (by kernel_rfl) (fun W hW => b1.keep (gd.t hW)) (fun p _ v W W' h k => R13_keep h k) ?_ ?_
  · intro p hp f W K' hW hd hK
    simp only [List.mem_cons, List.not_mem_nil, or_false] at hp
    rcases hp with rfl | rfl | rfl
    · simp only [TP, List.foldl_cons, List.foldl_nil, List.setIfInBounds_toArray, List.set_cons_zero, List.set_cons_succ] at hK ⊢
      have HK := Lib.hid hK
      clear hK
      refine ⟨_, rfl, by kernel_rfl, ?_⟩
      go_simp
      refine (HE.out _).mono ?_
      rintro e w3 ⟨gE, gS, rfl, hG3, hE, hS3⟩
      try simp only [Act.put, List.getElem_toArray, List.getElem_cons_zero, List.getElem_cons_succ, List.setIfInBounds_toArray, List.set_cons_zero, List.set_cons_succ]
      exact HK.out _ _ hG3 ⟨fun _ => ⟨gE, gS, rfl, hE, hS3⟩, fun e => absurd e (by decide), fun e => absurd e (by decide)⟩
    · simp only [TP, List.foldl_cons, List.foldl_nil, List.setIfInBounds_toArray, List.set_cons_zero, List.set_cons_succ] at hK ⊢
      have HK := Lib.hid hK
      clear hK
      refine ⟨_, rfl, by kernel_rfl, ?_⟩
      go_simp
      try simp only [Act.put, List.getElem_toArray, List.getElem_cons_zero, List.getElem_cons_succ, List.setIfInBounds_toArray, List.set_cons_zero, List.set_cons_succ]
      exact HK.out _ _ ((G.rf W).a _) ⟨fun e => absurd e (by decide), fun _ => ⟨_, rfl, Blk.new W 27 _⟩, fun e => absurd e (by decide)⟩
    · simp only [TP, List.foldl_cons, List.foldl_nil, List.setIfInBounds_toArray, List.set_cons_zero, List.set_cons_succ] at hK ⊢
      have HK := Lib.hid hK
      clear hK
      refine ⟨_, rfl, by kernel_rfl, ?_⟩
      go_simp
      try simp only [Act.put, List.getElem_toArray, List.getElem_cons_zero, List.getElem_cons_succ, List.setIfInBounds_toArray, List.set_cons_zero, List.set_cons_succ]
      exact HK.out _ _ ((G.rf W).a _) ⟨fun e => absurd e (by decide), fun e => absurd e (by decide), fun _ => ⟨_, rfl, Blk.new W 71 _⟩⟩
  · intro f W hW hf
    obtain ⟨gE, gS, e0, hE, hSS⟩ := (hf (0, 3) (by simp)).1 rfl
    obtain ⟨gH, e3, hH⟩ := (hf (3, 6) (by simp)).2.1 rfl
    obtain ⟨gF, e27, hF⟩ := (hf (27, 30) (by simp)).2.2 rfl
    have hB46 := b0.keep (gd.t hW)
    have hG46 := g0.t (gd.t hW)
    have hS := b1.keep (gd.t hW)
    clear hf b0 b1 g0
    simp only at e0 e3 e27
    simp only [TP, List.foldl_cons, List.foldl_nil, List.setIfInBounds_toArray, List.set_cons_zero, List.set_cons_succ]
    rw [e0, e3, e27]
    clear e0 e3 e27
    refine wpAnyY_take (i := 29) (v := ?_) rfl (by kernel_rfl) (by kernel_rfl) (by kernel_rfl) (by kernel_rfl) (fun _ _ _ h => h) (Or.inl ⟨by kernel_rfl, ?_⟩) hS ?_
    rotate_left
    · intro w' hSw; go_simp; with_reducible rfl
    try simp only [Act.put, List.getElem_toArray, List.getElem_cons_zero, List.getElem_cons_succ, List.setIfInBounds_toArray, List.set_cons_zero, List.set_cons_succ]
    refine wpAnyY_oneW (i := 30) (by kernel_rfl) rfl (by kernel_rfl) (by kernel_rfl) (fun K30 hK30 => ?_)
    refine wp_store46 w.heap.size 0 32 (OLD := #[.int .i64 0, .int .i64 0, .slice none 0 0, .int .i64 0, .slice none 0 0, .int .i64 0, .int .i64 0, .int .i64 0, .slice none 0 0, .int .i64 0, .int .i64 0, .slice none 0 0, .int .i64 0, .int .i64 0, .int .i64 0, .int .i64 0, .int .i64 0]) (REL := exRel gE gS gH gF) ⟨_, _, _, _, _, _, _, _, _, _, _, _, _, _, _, _, _, _, _, _, _, _, _, _, _, rfl⟩ ⟨_, _, _, _, _, _, _, _, _, _, _, _, _, _, _, _, _, _, _, _, _, _, _, _, _, rfl⟩ rfl rfl rfl hB46 fun W2 hB2 hF2 hG2 => ?_
    refine hK30.out _ _ ?_
    try simp only [Act.put, List.getElem_toArray, List.getElem_cons_zero, List.getElem_cons_succ, List.setIfInBounds_toArray, List.set_cons_zero, List.set_cons_succ]
    refine wpAnyY_done (by kernel_rfl) ?_ _
    have hH2 := hH.apart hB46 (by decide) hF2
    have hFF2 := hF.apart hB46 (by decide) hF2
    have hGG := hG2 w (Nat.le_refl _) hG46
    have hE2 := ex_ints (hE.apart hB46 (by decide) hF2)
    have hSS2 := ex_svs (hSS.apart hB46 (by decide) hF2)
    clear hF2 hG2 hK30
    go_wp2
    exact bodyPost_ret (res13 _ _ w.heap.size ⟨_, _, _, _, _, _, _, _, _, _, _, _, _, _, _, _, _, _, _, _, _, _, _, _, _, rfl⟩ rfl hB2) rfl ⟨gE, gS, gH, gF, rfl, hE2, hSS2, hH2, hFF2, hGG⟩
end Go.Proofs.YtcekdljjmfkacaaGreat
set_option linter.unusedSimpArgs false
set_option linter.unusedVariables false
namespace Go.Proofs.YtcekdljjmfkacaaGreat
open Go.RowKit
attribute [local go_sem] Oper.semAt_some

def exH (i r : Nat) : Int := ([3, 0, 2, 2] : List Int).getD (i * 2 + r) 0
def exF (i r : Nat) : Int := ([0, 0, 0, 3, 0, 2, 0, 30, 10, 50, 0, 25, 1, 1, 0, 3, 0, 2, 10, 50, 10, 50, 0, 25, 1, 1, 1, 1, 0, 0, 45, 60, 0, 999, 0, 999] : List Int).getD (i * 12 + r) 0
theorem exH_row {W : World} {g : Nat} (h : Blk W g 27 #[.int .i64 3, .int .i64 0, .int .i64 2, .int .i64 2]) : RowAt W (some ⟨g, 0, none⟩) 2 2 exH := .inr ⟨_, 0, rfl, h.lt, fun i hi r hr => by
  rw [Nat.zero_add, h.cell]
  have : i * 2 + r < 4 := by omega
  unfold exH
  generalize i * 2 + r = q at *
  match q, this with
  | 0, _ => rfl
  | 1, _ => rfl
  | 2, _ => rfl
  | 3, _ => rfl⟩
theorem exF_all : ∀ q, q < 36 → exFronts[q]? = some (.int .i64 (([0, 0, 0, 3, 0, 2, 0, 30, 10, 50, 0, 25, 1, 1, 0, 3, 0, 2, 10, 50, 10, 50, 0, 25, 1, 1, 1, 1, 0, 0, 45, 60, 0, 999, 0, 999] : List Int).getD q 0)) := by
  intro q hq
  have e : exFronts = (([0, 0, 0, 3, 0, 2, 0, 30, 10, 50, 0, 25, 1, 1, 0, 3, 0, 2, 10, 50, 10, 50, 0, 25, 1, 1, 1, 1, 0, 0, 45, 60, 0, 999, 0, 999] : List Int).map fun n => Value.int .i64 n).toArray := rfl
  rw [e, List.getElem?_toArray, List.getElem?_map]
  have hl : ([0, 0, 0, 3, 0, 2, 0, 30, 10, 50, 0, 25, 1, 1, 0, 3, 0, 2, 10, 50, 10, 50, 0, 25, 1, 1, 1, 1, 0, 0, 45, 60, 0, 999, 0, 999] : List Int).length = 36 := rfl
  generalize ([0, 0, 0, 3, 0, 2, 0, 30, 10, 50, 0, 25, 1, 1, 0, 3, 0, 2, 10, 50, 10, 50, 0, 25, 1, 1, 1, 1, 0, 0, 45, 60, 0, 999, 0, 999] : List Int) = L at *
  simp [List.getD, hl, hq]
theorem exF_row {W : World} {g : Nat} (h : Blk W g 71 exFronts) : RowAt W (some ⟨g, 0, none⟩) 3 12 exF := .inr ⟨_, 0, rfl, h.lt, fun i hi r hr => by
  rw [Nat.zero_add, h.cell]
  exact exF_all _ (by omega)⟩
theorem ex_rel : RelOk (4 : Nat) exEast.length (0 : Nat) (0 : Nat) (400 : Nat) (800 : Nat) 40 8 30 2 110 2 exH := by
  refine ⟨by decide, by decide, fun i hi => ?_, by decide, by decide, by decide, by decide, by decide, by decide⟩
  match i, hi with
  | 0, _ => decide
  | 1, _ => decide
theorem ex_fronts : ∀ i, i < 3 → FrontOk (4 : Nat) exEast.length 2 (exF i) := fun i hi => by
  match i, hi with
  | 0, _ => exact ⟨by decide, by decide, by decide, by decide, by decide, by decide⟩
  | 1, _ => exact ⟨by decide, by decide, by decide, by decide, by decide, by decide⟩
  | 2, _ => exact ⟨by decide, by decide, by decide, by decide, by decide, by decide⟩
theorem ex_check0 : checkE 1000 (4 : Nat) exEast (2 : Nat) exSvs 0 = 0 := by decide +kernel
theorem ex_many0 : manyV 1000 0 4 2 exEast exSvs = 1 := by decide +kernel
theorem ex_lo3 : loT 1000 exEast (pbK 0 0 3 0 3 3) 800 3 = 3 := by decide +kernel
theorem ex_hi3 : hiT 1000 exEast (pbK 0 0 3 0 3 3) 400 3 = 6 := by decide +kernel
theorem spV_get (north : Int) (east : List Int) (P : List (Nat × Nat)) (sl sh m : Nat) : ∀ n k, k < n → ∀ r, r < 2 → (spV north east P sl sh m n)[k * 2 + r]? = ([.int .i64 ((m : Int) + (loT north east P sh k : Nat)), .int .i64 ((m : Int) + (hiT north east P sl k : Nat))] : List Value)[r]?
  | 0, k, hk, _, _ => by omega
  | n + 1, k, hk, r, hr => by
    have hl : (spV north east P sl sh m n).length = n * 2 := by
      clear hk
      induction n with
      | zero => rfl
      | succ n ih => rw [spV_succ, List.length_append, ih]; simp; omega
    rw [spV_succ]
    by_cases h : k < n
    · rw [List.getElem?_append_left (by omega)]
      exact spV_get north east P sl sh m n k h r hr
    · obtain rfl : k = n := by omega
      rw [List.getElem?_append_right (by omega), hl, show k * 2 + r - k * 2 = r by omega]
theorem ex_Passes {gE gS gH gF : Nat} {w : World} (hE : IntsAt w (some ⟨gE, 0, none⟩) exEast) (hS : SvsAt w (some ⟨gS, 0, none⟩) exSvs) (hH : Blk w gH 27 #[.int .i64 3, .int .i64 0, .int .i64 2, .int .i64 2]) (hF : Blk w gF 71 exFronts) :
    Calls Tryz.prog 13 #[.agg (exRel gE gS gH gF), .int .i64 0, .int .i64 10] w fun e w' => ∃ g c, e = .returned (.tuple #[.slice (some ⟨g, 0, none⟩) 4 c, .int .i64 0]) ∧ w'.cell? ⟨g, 6, none⟩ = some (.int .i64 13) ∧ w'.cell? ⟨g, 7, none⟩ = some (.int .i64 16) ∧ G w w' := by
  have h := Passes_ok 1000 0 40 8 30 2 110 4 2 0 0 3 0 400 800 10 0 exEast exSvs 2 3 exH exF _ _ _ _ 3 4 2 3 w hE hS ex_check0 ex_rel (exH_row hH) (exF_row hF) (by omega) ex_fronts (by omega) rfl rfl (by omega)
  refine h.mono ?_
  rintro e w' ⟨v, rfl, hown, hG⟩
  have hst : stepsN 0 0 3 0 = 3 := by decide
  rw [hst] at hown
  obtain ⟨g, cap, cur, rfl, hb, hg, ht⟩ := own_some hown (by omega)
  have c6 := take_cell hb ht (k := 6) (by omega) (spV_get 1000 exEast (pbK 0 0 3 0 3 3) 400 800 10 4 3 (by omega) 0 (by omega))
  have c7 := take_cell hb ht (k := 7) (by omega) (spV_get 1000 exEast (pbK 0 0 3 0 3 3) 400 800 10 4 3 (by omega) 1 (by omega))
  rw [ex_lo3] at c6
  rw [ex_hi3] at c7
  exact ⟨g, cap, rfl, c6, c7, hG⟩
theorem cell_lt {W : World} {g i : Nat} {v : Value} (h : W.cell? ⟨g, i, none⟩ = some v) : g < W.heap.size := by
  by_cases hg : g < W.heap.size
  · exact hg
  · unfold World.cell? at h
    rw [show W.heap[g]? = none from Array.getElem?_eq_none (Nat.le_of_not_lt hg)] at h
    simp at h
end Go.Proofs.YtcekdljjmfkacaaGreat
