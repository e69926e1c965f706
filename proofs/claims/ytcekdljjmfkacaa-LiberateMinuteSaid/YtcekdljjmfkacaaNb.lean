import Derived.Test.YtcekdljjmfkacaaNa
set_option linter.unusedSimpArgs false
set_option linter.unusedVariables false
namespace Go.Proofs.Ytcekdljjmfkacaa
open Go.RowKit
attribute [local go_sem] Oper.semAt_some

theorem far_trans {W W1 : World} {g : Nat} (h : ∀ b, b ≠ g → W1.heap[b]? = W.heap[b]?) (i : Nat) (u : Value) : ∀ b, b ≠ g → (W1.setCell ⟨g, i, none⟩ u).heap[b]? = W.heap[b]? := fun b hb => (Below.heap_setCell W1 ⟨g, i, none⟩ u b hb).trans (h b hb)
theorem Blk.awayB {W W2 : World} {b g : Nat} {t : TypeId} {cs : Array Value} (hb : Blk W b t cs) (hne : b ≠ g) (hF : ∀ b, b ≠ g → W2.heap[b]? = W.heap[b]?) : Blk W2 b t cs := by
  unfold Blk at *
  rw [hF b hne]
  exact hb
theorem load102 (w : World) (g t : Nat) {s : Sk} (op : Oper) (ev : Operand → Value) (ho : op.op = .load 102 (.tmp t)) (hv : ev (.tmp t) = .pointer (some ⟨g, 0, none⟩)) (hB : Blk w g 102 s.v) :
    (execOp ev op).run Try.prog w = .ok (.value (.agg s.v)) w := by
  have c0 : w.cell? ⟨g, 0, none⟩ = some (.int .i64 s.wl) := hB.cell 0
  have c1 : w.cell? ⟨g, 1, none⟩ = some (.int .i64 s.wh) := hB.cell 1
  have c2 : w.cell? ⟨g, 2, none⟩ = some (.int .i64 s.sl) := hB.cell 2
  have c3 : w.cell? ⟨g, 3, none⟩ = some (.int .i64 s.sh) := hB.cell 3
  have c4 : w.cell? ⟨g, 4, none⟩ = some (.int .i64 s.hl) := hB.cell 4
  have c5 : w.cell? ⟨g, 5, none⟩ = some (.int .i64 s.hh) := hB.cell 5
  clear hB
  unfold execOp
  simp only [ho, hv]
  go_simp
  rfl
set_option maxHeartbeats 1000000 in
theorem store102 (W : World) (g t k : Nat) {o s : Sk} (op : Oper) (ev : Operand → Value) (ho : op.op = .store 102 (.tmp t) (.tmp k)) (hv : ev (.tmp t) = .pointer (some ⟨g, 0, none⟩)) (hs : ev (.tmp k) = .agg s.v) (hB : Blk W g 102 o.v) :
    ∃ W2, (execOp ev op).run Try.prog W = .ok .skip W2 ∧ Blk W2 g 102 s.v ∧ (∀ b, b ≠ g → W2.heap[b]? = W.heap[b]?) ∧ ∀ w0 : World, w0.heap.size ≤ g → G w0 W → G w0 W2 := by
  obtain ⟨x0, x1, x2, x3, x4, x5⟩ := s
  have c0 : W.cell? ⟨g, 0, none⟩ = some (.int .i64 o.wl) := hB.cell 0
  have c1 : W.cell? ⟨g, 1, none⟩ = some (.int .i64 o.wh) := hB.cell 1
  have c2 : W.cell? ⟨g, 2, none⟩ = some (.int .i64 o.sl) := hB.cell 2
  have c3 : W.cell? ⟨g, 3, none⟩ = some (.int .i64 o.sh) := hB.cell 3
  have c4 : W.cell? ⟨g, 4, none⟩ = some (.int .i64 o.hl) := hB.cell 4
  have c5 : W.cell? ⟨g, 5, none⟩ = some (.int .i64 o.hh) := hB.cell 5
  have z0 := hB.frozen 0
  have z1 := hB.frozen 1
  have z2 := hB.frozen 2
  have z3 := hB.frozen 3
  have z4 := hB.frozen 4
  have z5 := hB.frozen 5
  have lB := hB.lt
  refine ⟨((((((W).setCell ⟨g, 0, none⟩ (.int .i64 x0)).setCell ⟨g, 1, none⟩ (.int .i64 x1)).setCell ⟨g, 2, none⟩ (.int .i64 x2)).setCell ⟨g, 3, none⟩ (.int .i64 x3)).setCell ⟨g, 4, none⟩ (.int .i64 x4)).setCell ⟨g, 5, none⟩ (.int .i64 x5), ?_, ?_, ?_, fun w0 hg hG => ((((((hG).s (p := ⟨g, 0, none⟩) hg (.int .i64 x0)).s (p := ⟨g, 1, none⟩) hg (.int .i64 x1)).s (p := ⟨g, 2, none⟩) hg (.int .i64 x2)).s (p := ⟨g, 3, none⟩) hg (.int .i64 x3)).s (p := ⟨g, 4, none⟩) hg (.int .i64 x4)).s (p := ⟨g, 5, none⟩) hg (.int .i64 x5)⟩
  · clear hB
    unfold execOp
    simp only [ho, hv, hs, Sk.v]
    go_simp
  · have b := ((((((hB).set_ 0 (.int .i64 x0)).set_ 1 (.int .i64 x1)).set_ 2 (.int .i64 x2)).set_ 3 (.int .i64 x3)).set_ 4 (.int .i64 x4)).set_ 5 (.int .i64 x5)
    simp only [Sk.v, List.setIfInBounds_toArray, List.set_cons_zero, List.set_cons_succ] at b
    exact b
  · exact far_trans (far_trans (far_trans (far_trans (far_trans (far_trans (fun _ _ => rfl) 0 (.int .i64 x0)) 1 (.int .i64 x1)) 2 (.int .i64 x2)) 3 (.int .i64 x3)) 4 (.int .i64 x4)) 5 (.int .i64 x5)
section
variable {P : Program} {w : World} {ops : Array Oper} {rest : List Oper} {o : Oper} {a : Act} {Q : Exit → Act → World → Prop}
theorem wpList_load102 (g t : Nat) {s : Sk} (hgd : o.guard = none) (ho : o.op = .load 102 (.tmp t)) (hv : a.eval (.tmp t) = .pointer (some ⟨g, 0, none⟩)) (hB : Blk w g 102 s.v)
    (h : wpList Try.prog ops Q rest (a.put o.dst (.agg s.v)) w) : wpList Try.prog ops Q (o :: rest) a w := by
  refine wpList_plain hgd fun K hK => ?_
  unfold Oper.wp
  rw [load102 w g t o a.eval ho hv hB]
  exact hK _ _ h
theorem wp_store102 {W : World} {K : Act → World → Prop} (g t k : Nat) {x s : Sk} (ho : o.op = .store 102 (.tmp t) (.tmp k)) (hv : a.eval (.tmp t) = .pointer (some ⟨g, 0, none⟩)) (hs : a.eval (.tmp k) = .agg s.v) (hB : Blk W g 102 x.v)
    (hk : ∀ W2, Blk W2 g 102 s.v → (∀ b, b ≠ g → W2.heap[b]? = W.heap[b]?) → (∀ w0 : World, w0.heap.size ≤ g → G w0 W → G w0 W2) → K (a.put o.dst undef) W2) : Oper.wp Try.prog o a W K Q := by
  obtain ⟨W2, h1, h2, h3, h4⟩ := store102 W g t k o a.eval ho hv hs hB
  unfold Oper.wp
  rw [h1]
  exact hk W2 h2 h3 h4
theorem wpList_store102 (g t k : Nat) {x s : Sk} (hgd : o.guard = none) (ho : o.op = .store 102 (.tmp t) (.tmp k)) (hv : a.eval (.tmp t) = .pointer (some ⟨g, 0, none⟩)) (hs : a.eval (.tmp k) = .agg s.v) (hB : Blk w g 102 x.v)
    (h : ∀ W2, Blk W2 g 102 s.v → (∀ b, b ≠ g → W2.heap[b]? = w.heap[b]?) → (∀ w0 : World, w0.heap.size ≤ g → G w0 w → G w0 W2) → wpList Try.prog ops Q rest (a.put o.dst undef) W2) : wpList Try.prog ops Q (o :: rest) a w := by
  refine wpList_plain hgd fun K hK => ?_
  exact wp_store102 g t k ho hv hs hB fun W2 h1 h2 h3 => hK _ _ (h W2 h1 h2 h3)
end
def sk0 : Sk := ⟨0, 0, 0, 0, 0, 0⟩

set_option maxRecDepth 100000 in
set_option maxHeartbeats 4000000 in
theorem and_any (a b : Sk) (w : World) : Calls Try.prog 102 #[.agg a.v, .agg b.v] w fun e w' => e = .returned (.agg (a.both b).v) ∧ G w w' := by
  have HB := Lib.hid (fun (x y z u : Int) (W : World) => both_any x y z u W)
  obtain ⟨g0, b0, b1, b2⟩ := w3_spec6 w a.v b.v #[.int .i64 0, .int .i64 0, .int .i64 0, .int .i64 0, .int .i64 0, .int .i64 0] 102 102 102
  go_enter Try.func102, Try.ntmps102
  go_wp2_with fail
  generalize ((w.alloc (.cells a.v 102)).alloc (.cells b.v 102)).alloc (.cells #[.int .i64 0, .int .i64 0, .int .i64 0, .int .i64 0, .int .i64 0, .int .i64 0] 102) = w1 at *
  go_loopw [6] (fun i wr => G w wr ∧ Blk wr (w.heap.size + 1) 102 b.v ∧ Blk wr (w.heap.size + 1 + 1) 102 #[.int .i64 0, .int .i64 0, .int .i64 0, .int .i64 0, .int .i64 0, .int .i64 0] ∧ ((i = .int .i64 0 ∧ Blk wr w.heap.size 102 #[.int .i64 a.wl, .int .i64 a.wh, .int .i64 a.sl, .int .i64 a.sh, .int .i64 a.hl, .int .i64 a.hh]) ∨ (i = .int .i64 1 ∧ Blk wr w.heap.size 102 #[.int .i64 (max a.wl b.wl), .int .i64 (min a.wh b.wh), .int .i64 a.sl, .int .i64 a.sh, .int .i64 a.hl, .int .i64 a.hh]) ∨ (i = .int .i64 2 ∧ Blk wr w.heap.size 102 #[.int .i64 (max a.wl b.wl), .int .i64 (min a.wh b.wh), .int .i64 (max a.sl b.sl), .int .i64 (min a.sh b.sh), .int .i64 a.hl, .int .i64 a.hh]) ∨ (i = .int .i64 3 ∧ Blk wr w.heap.size 102 #[.int .i64 (max a.wl b.wl), .int .i64 (min a.wh b.wh), .int .i64 (max a.sl b.sl), .int .i64 (min a.sh b.sh), .int .i64 (max a.hl b.hl), .int .i64 (min a.hh b.hh)]))) (fun i _ => 3 - (intOf i).toNat)
  case atStart => exact ⟨g0, b1, b2, .inl ⟨rfl, b0⟩⟩
  case round =>
    obtain ⟨hG, hb, hz, hr⟩ := hrel
    obtain ⟨wo, rfl⟩ : ∃ wo, wo = wr := ⟨_, rfl⟩
    clear g0 b0 b1 b2
    rcases hr with ⟨rfl, ha⟩ | ⟨rfl, ha⟩ | ⟨rfl, ha⟩ | ⟨rfl, ha⟩
    · have hSk : ∀ W', G wo W' → W'.cell? ⟨w.heap.size, 0, none⟩ = some (.int .i64 a.wl) ∧ W'.cell? ⟨w.heap.size, 1, none⟩ = some (.int .i64 a.wh) ∧ W'.cell? ⟨w.heap.size + 1, 0, none⟩ = some (.int .i64 b.wl) ∧ W'.cell? ⟨w.heap.size + 1, 1, none⟩ = some (.int .i64 b.wh) := fun W' hW => ⟨(ha.keep hW).cell 0, (ha.keep hW).cell 1, (hb.keep hW).cell 0, (hb.keep hW).cell 1⟩
      go_wp2_with fail
      refine wp_region_Y (S := fun W' => W'.cell? ⟨w.heap.size, 0, none⟩ = some (.int .i64 a.wl) ∧ W'.cell? ⟨w.heap.size, 1, none⟩ = some (.int .i64 a.wh) ∧ W'.cell? ⟨w.heap.size + 1, 0, none⟩ = some (.int .i64 b.wl) ∧ W'.cell? ⟨w.heap.size + 1, 1, none⟩ = some (.int .i64 b.wh)) 9 10 rfl (by kernel_rfl) (hSk _ (G.rf _).d) (fun hS => ?_)
      refine wpAnyY_take (i := 0) (v := ?_) rfl (by kernel_rfl) (by kernel_rfl) (by kernel_rfl) (by kernel_rfl) (fun _ _ _ h => h) (Or.inl ⟨by kernel_rfl, ?_⟩) hS ?_
      rotate_left
      · intro w' hSw; go_simp; with_reducible rfl
      try simp only [Act.put, List.getElem_toArray, List.getElem_cons_zero, List.getElem_cons_succ, List.setIfInBounds_toArray, List.set_cons_zero, List.set_cons_succ]
      refine wpAnyY_take (i := 1) (v := ?_) rfl (by kernel_rfl) (by kernel_rfl) (by kernel_rfl) (by kernel_rfl) (fun _ _ _ h => h) (Or.inl ⟨by kernel_rfl, ?_⟩) hS ?_
      rotate_left
      · intro w' hSw; go_simp; with_reducible rfl
      try simp only [Act.put, List.getElem_toArray, List.getElem_cons_zero, List.getElem_cons_succ, List.setIfInBounds_toArray, List.set_cons_zero, List.set_cons_succ]
      refine wpAnyY_take (i := 2) (v := ?_) rfl (by kernel_rfl) (by kernel_rfl) (by kernel_rfl) (by kernel_rfl) (fun _ _ _ h => h) (Or.inl ⟨by kernel_rfl, ?_⟩) hS ?_
      rotate_left
      · intro w' hSw; go_simp; with_reducible rfl
      try simp only [Act.put, List.getElem_toArray, List.getElem_cons_zero, List.getElem_cons_succ, List.setIfInBounds_toArray, List.set_cons_zero, List.set_cons_succ]
      refine wpAnyY_take (i := 3) (v := ?_) rfl (by kernel_rfl) (by kernel_rfl) (by kernel_rfl) (by kernel_rfl) (fun _ _ _ h => h) (Or.inl ⟨by kernel_rfl, ?_⟩) hS ?_
      rotate_left
      · intro w' hSw; obtain ⟨y0, y1, y2, y3⟩ := hSw; go_simp; with_reducible rfl
      try simp only [Act.put, List.getElem_toArray, List.getElem_cons_zero, List.getElem_cons_succ, List.setIfInBounds_toArray, List.set_cons_zero, List.set_cons_succ]
      refine wpAnyY_take (i := 4) (v := ?_) rfl (by kernel_rfl) (by kernel_rfl) (by kernel_rfl) (by kernel_rfl) (fun _ _ _ h => h) (Or.inl ⟨by kernel_rfl, ?_⟩) hS ?_
      rotate_left
      · intro w' hSw; go_simp; with_reducible rfl
      try simp only [Act.put, List.getElem_toArray, List.getElem_cons_zero, List.getElem_cons_succ, List.setIfInBounds_toArray, List.set_cons_zero, List.set_cons_succ]
      refine wpAnyY_take (i := 5) (v := ?_) rfl (by kernel_rfl) (by kernel_rfl) (by kernel_rfl) (by kernel_rfl) (fun _ _ _ h => h) (Or.inl ⟨by kernel_rfl, ?_⟩) hS ?_
      rotate_left
      · intro w' hSw; go_simp; with_reducible rfl
      try simp only [Act.put, List.getElem_toArray, List.getElem_cons_zero, List.getElem_cons_succ, List.setIfInBounds_toArray, List.set_cons_zero, List.set_cons_succ]
      refine wpAnyY_take (i := 6) (v := ?_) rfl (by kernel_rfl) (by kernel_rfl) (by kernel_rfl) (by kernel_rfl) (fun _ _ _ h => h) (Or.inl ⟨by kernel_rfl, ?_⟩) hS ?_
      rotate_left
      · intro w' hSw; obtain ⟨y0, y1, y2, y3⟩ := hSw; go_simp; with_reducible rfl
      try simp only [Act.put, List.getElem_toArray, List.getElem_cons_zero, List.getElem_cons_succ, List.setIfInBounds_toArray, List.set_cons_zero, List.set_cons_succ]
      refine wpAnyY_oneSW (i := 7) (by kernel_rfl) rfl (by kernel_rfl) (fun K7 hK7 => ?_)
      go_simp
      refine (HB.out _ _ _ _ _).mono ?_
      rintro e w5 ⟨rfl, hG5⟩
      have gd := (G.rf wo).d.t hG5
      refine hK7.out _ _ (hSk _ gd) (fun hS => ?_)
      try simp only [Act.put, List.getElem_toArray, List.getElem_cons_zero, List.getElem_cons_succ, List.setIfInBounds_toArray, List.set_cons_zero, List.set_cons_succ]
      refine wpAnyY_take (i := 8) (v := ?_) rfl (by kernel_rfl) (by kernel_rfl) (by kernel_rfl) (by kernel_rfl) (fun _ _ _ h => h) (Or.inl ⟨by kernel_rfl, ?_⟩) hS ?_
      rotate_left
      · intro w' hSw; go_simp; with_reducible rfl
      try simp only [Act.put, List.getElem_toArray, List.getElem_cons_zero, List.getElem_cons_succ, List.setIfInBounds_toArray, List.set_cons_zero, List.set_cons_succ]
      refine wpAnyY_oneW (i := 9) (by kernel_rfl) rfl (by kernel_rfl) (by kernel_rfl) (fun K9 hK9 => ?_)
      have B := ha.keep gd
      have c0 := B.cell 0
      have c1 := B.cell 1
      have z0 := B.frozen 0
      have z1 := B.frozen 1
      have lB := B.lt
      go_simp
      refine hK9.out _ _ ?_
      try simp only [Act.put, List.getElem_toArray, List.getElem_cons_zero, List.getElem_cons_succ, List.setIfInBounds_toArray, List.set_cons_zero, List.set_cons_succ]
      refine wpAnyY_done (by kernel_rfl) ?_ _
      clear hS hSk hK7 hK9 c0 c1 z0 z1 lB
      go_wp2_with fail
      go_roundw
      case rel =>
        have ne1 : w.heap.size + 1 ≠ w.heap.size := by omega
        have ne2 : w.heap.size + 1 + 1 ≠ w.heap.size := by omega
        refine ⟨((hG.t gd).s (p := ⟨w.heap.size, 0, none⟩) (Nat.le_refl _) _).s (p := ⟨w.heap.size, 1, none⟩) (Nat.le_refl _) _, ((hb.keep gd).far (p := ⟨w.heap.size, 0, none⟩) ne1 _).far (p := ⟨w.heap.size, 1, none⟩) ne1 _, ((hz.keep gd).far (p := ⟨w.heap.size, 0, none⟩) ne2 _).far (p := ⟨w.heap.size, 1, none⟩) ne2 _, .inr (.inl ⟨rfl, ?_⟩)⟩
        have b' := (B.set_ 0 (.int .i64 (max a.wl b.wl))).set_ 1 (.int .i64 (min a.wh b.wh))
        simp only [List.setIfInBounds_toArray, List.set_cons_zero, List.set_cons_succ] at b'
        exact b'
      case measure => simp [intOf]
    · have hSk : ∀ W', G wo W' → W'.cell? ⟨w.heap.size, 2, none⟩ = some (.int .i64 a.sl) ∧ W'.cell? ⟨w.heap.size, 3, none⟩ = some (.int .i64 a.sh) ∧ W'.cell? ⟨w.heap.size + 1, 2, none⟩ = some (.int .i64 b.sl) ∧ W'.cell? ⟨w.heap.size + 1, 3, none⟩ = some (.int .i64 b.sh) := fun W' hW => ⟨(ha.keep hW).cell 2, (ha.keep hW).cell 3, (hb.keep hW).cell 2, (hb.keep hW).cell 3⟩
      go_wp2_with fail
      refine wp_region_Y (S := fun W' => W'.cell? ⟨w.heap.size, 2, none⟩ = some (.int .i64 a.sl) ∧ W'.cell? ⟨w.heap.size, 3, none⟩ = some (.int .i64 a.sh) ∧ W'.cell? ⟨w.heap.size + 1, 2, none⟩ = some (.int .i64 b.sl) ∧ W'.cell? ⟨w.heap.size + 1, 3, none⟩ = some (.int .i64 b.sh)) 9 10 rfl (by kernel_rfl) (hSk _ (G.rf _).d) (fun hS => ?_)
      refine wpAnyY_take (i := 0) (v := ?_) rfl (by kernel_rfl) (by kernel_rfl) (by kernel_rfl) (by kernel_rfl) (fun _ _ _ h => h) (Or.inl ⟨by kernel_rfl, ?_⟩) hS ?_
      rotate_left
      · intro w' hSw; go_simp; with_reducible rfl
      try simp only [Act.put, List.getElem_toArray, List.getElem_cons_zero, List.getElem_cons_succ, List.setIfInBounds_toArray, List.set_cons_zero, List.set_cons_succ]
      refine wpAnyY_take (i := 1) (v := ?_) rfl (by kernel_rfl) (by kernel_rfl) (by kernel_rfl) (by kernel_rfl) (fun _ _ _ h => h) (Or.inl ⟨by kernel_rfl, ?_⟩) hS ?_
      rotate_left
      · intro w' hSw; go_simp; with_reducible rfl
      try simp only [Act.put, List.getElem_toArray, List.getElem_cons_zero, List.getElem_cons_succ, List.setIfInBounds_toArray, List.set_cons_zero, List.set_cons_succ]
      refine wpAnyY_take (i := 2) (v := ?_) rfl (by kernel_rfl) (by kernel_rfl) (by kernel_rfl) (by kernel_rfl) (fun _ _ _ h => h) (Or.inl ⟨by kernel_rfl, ?_⟩) hS ?_
      rotate_left
      · intro w' hSw; go_simp; with_reducible rfl
      try simp only [Act.put, List.getElem_toArray, List.getElem_cons_zero, List.getElem_cons_succ, List.setIfInBounds_toArray, List.set_cons_zero, List.set_cons_succ]
      refine wpAnyY_take (i := 3) (v := ?_) rfl (by kernel_rfl) (by kernel_rfl) (by kernel_rfl) (by kernel_rfl) (fun _ _ _ h => h) (Or.inl ⟨by kernel_rfl, ?_⟩) hS ?_
      rotate_left
      · intro w' hSw; obtain ⟨y0, y1, y2, y3⟩ := hSw; go_simp; with_reducible rfl
      try simp only [Act.put, List.getElem_toArray, List.getElem_cons_zero, List.getElem_cons_succ, List.setIfInBounds_toArray, List.set_cons_zero, List.set_cons_succ]
      refine wpAnyY_take (i := 4) (v := ?_) rfl (by kernel_rfl) (by kernel_rfl) (by kernel_rfl) (by kernel_rfl) (fun _ _ _ h => h) (Or.inl ⟨by kernel_rfl, ?_⟩) hS ?_
      rotate_left
      · intro w' hSw; go_simp; with_reducible rfl
      try simp only [Act.put, List.getElem_toArray, List.getElem_cons_zero, List.getElem_cons_succ, List.setIfInBounds_toArray, List.set_cons_zero, List.set_cons_succ]
      refine wpAnyY_take (i := 5) (v := ?_) rfl (by kernel_rfl) (by kernel_rfl) (by kernel_rfl) (by kernel_rfl) (fun _ _ _ h => h) (Or.inl ⟨by kernel_rfl, ?_⟩) hS ?_
      rotate_left
      · intro w' hSw; go_simp; with_reducible rfl
      try simp only [Act.put, List.getElem_toArray, List.getElem_cons_zero, List.getElem_cons_succ, List.setIfInBounds_toArray, List.set_cons_zero, List.set_cons_succ]
      refine wpAnyY_take (i := 6) (v := ?_) rfl (by kernel_rfl) (by kernel_rfl) (by kernel_rfl) (by kernel_rfl) (fun _ _ _ h => h) (Or.inl ⟨by kernel_rfl, ?_⟩) hS ?_
      rotate_left
      · intro w' hSw; obtain ⟨y0, y1, y2, y3⟩ := hSw; go_simp; with_reducible rfl
      try simp only [Act.put, List.getElem_toArray, List.getElem_cons_zero, List.getElem_cons_succ, List.setIfInBounds_toArray, List.set_cons_zero, List.set_cons_succ]
      refine wpAnyY_oneSW (i := 7) (by kernel_rfl) rfl (by kernel_rfl) (fun K7 hK7 => ?_)
      go_simp
      refine (HB.out _ _ _ _ _).mono ?_
      rintro e w5 ⟨rfl, hG5⟩
      have gd := (G.rf wo).d.t hG5
      refine hK7.out _ _ (hSk _ gd) (fun hS => ?_)
      try simp only [Act.put, List.getElem_toArray, List.getElem_cons_zero, List.getElem_cons_succ, List.setIfInBounds_toArray, List.set_cons_zero, List.set_cons_succ]
      refine wpAnyY_take (i := 8) (v := ?_) rfl (by kernel_rfl) (by kernel_rfl) (by kernel_rfl) (by kernel_rfl) (fun _ _ _ h => h) (Or.inl ⟨by kernel_rfl, ?_⟩) hS ?_
      rotate_left
      · intro w' hSw; go_simp; with_reducible rfl
      try simp only [Act.put, List.getElem_toArray, List.getElem_cons_zero, List.getElem_cons_succ, List.setIfInBounds_toArray, List.set_cons_zero, List.set_cons_succ]
      refine wpAnyY_oneW (i := 9) (by kernel_rfl) rfl (by kernel_rfl) (by kernel_rfl) (fun K9 hK9 => ?_)
      have B := ha.keep gd
      have c0 := B.cell 2
      have c1 := B.cell 3
      have z0 := B.frozen 2
      have z1 := B.frozen 3
      have lB := B.lt
      go_simp
      refine hK9.out _ _ ?_
      try simp only [Act.put, List.getElem_toArray, List.getElem_cons_zero, List.getElem_cons_succ, List.setIfInBounds_toArray, List.set_cons_zero, List.set_cons_succ]
      refine wpAnyY_done (by kernel_rfl) ?_ _
      clear hS hSk hK7 hK9 c0 c1 z0 z1 lB
      go_wp2_with fail
      go_roundw
      case rel =>
        have ne1 : w.heap.size + 1 ≠ w.heap.size := by omega
        have ne2 : w.heap.size + 1 + 1 ≠ w.heap.size := by omega
        refine ⟨((hG.t gd).s (p := ⟨w.heap.size, 2, none⟩) (Nat.le_refl _) _).s (p := ⟨w.heap.size, 3, none⟩) (Nat.le_refl _) _, ((hb.keep gd).far (p := ⟨w.heap.size, 2, none⟩) ne1 _).far (p := ⟨w.heap.size, 3, none⟩) ne1 _, ((hz.keep gd).far (p := ⟨w.heap.size, 2, none⟩) ne2 _).far (p := ⟨w.heap.size, 3, none⟩) ne2 _, .inr (.inr (.inl ⟨rfl, ?_⟩))⟩
        have b' := (B.set_ 2 (.int .i64 (max a.sl b.sl))).set_ 3 (.int .i64 (min a.sh b.sh))
        simp only [List.setIfInBounds_toArray, List.set_cons_zero, List.set_cons_succ] at b'
        exact b'
      case measure => simp [intOf]
    · have hSk : ∀ W', G wo W' → W'.cell? ⟨w.heap.size, 4, none⟩ = some (.int .i64 a.hl) ∧ W'.cell? ⟨w.heap.size, 5, none⟩ = some (.int .i64 a.hh) ∧ W'.cell? ⟨w.heap.size + 1, 4, none⟩ = some (.int .i64 b.hl) ∧ W'.cell? ⟨w.heap.size + 1, 5, none⟩ = some (.int .i64 b.hh) := fun W' hW => ⟨(ha.keep hW).cell 4, (ha.keep hW).cell 5, (hb.keep hW).cell 4, (hb.keep hW).cell 5⟩
      go_wp2_with fail
      refine wp_region_Y (S := fun W' => W'.cell? ⟨w.heap.size, 4, none⟩ = some (.int .i64 a.hl) ∧ W'.cell? ⟨w.heap.size, 5, none⟩ = some (.int .i64 a.hh) ∧ W'.cell? ⟨w.heap.size + 1, 4, none⟩ = some (.int .i64 b.hl) ∧ W'.cell? ⟨w.heap.size + 1, 5, none⟩ = some (.int .i64 b.hh)) 9 10 rfl (by kernel_rfl) (hSk _ (G.rf _).d) (fun hS => ?_)
      refine wpAnyY_take (i := 0) (v := ?_) rfl (by kernel_rfl) (by kernel_rfl) (by kernel_rfl) (by kernel_rfl) (fun _ _ _ h => h) (Or.inl ⟨by kernel_rfl, ?_⟩) hS ?_
      rotate_left
      · intro w' hSw; go_simp; with_reducible rfl
      try simp only [Act.put, List.getElem_toArray, List.getElem_cons_zero, List.getElem_cons_succ, List.setIfInBounds_toArray, List.set_cons_zero, List.set_cons_succ]
      refine wpAnyY_take (i := 1) (v := ?_) rfl (by kernel_rfl) (by kernel_rfl) (by kernel_rfl) (by kernel_rfl) (fun _ _ _ h => h) (Or.inl ⟨by kernel_rfl, ?_⟩) hS ?_
      rotate_left
      · intro w' hSw; go_simp; with_reducible rfl
      try simp only [Act.put, List.getElem_toArray, List.getElem_cons_zero, List.getElem_cons_succ, List.setIfInBounds_toArray, List.set_cons_zero, List.set_cons_succ]
      refine wpAnyY_take (i := 2) (v := ?_) rfl (by kernel_rfl) (by kernel_rfl) (by kernel_rfl) (by kernel_rfl) (fun _ _ _ h => h) (Or.inl ⟨by kernel_rfl, ?_⟩) hS ?_
      rotate_left
      · intro w' hSw; go_simp; with_reducible rfl
      try simp only [Act.put, List.getElem_toArray, List.getElem_cons_zero, List.getElem_cons_succ, List.setIfInBounds_toArray, List.set_cons_zero, List.set_cons_succ]
      refine wpAnyY_take (i := 3) (v := ?_) rfl (by kernel_rfl) (by kernel_rfl) (by kernel_rfl) (by kernel_rfl) (fun _ _ _ h => h) (Or.inl ⟨by kernel_rfl, ?_⟩) hS ?_
      rotate_left
      · intro w' hSw; obtain ⟨y0, y1, y2, y3⟩ := hSw; go_simp; with_reducible rfl
      try simp only [Act.put, List.getElem_toArray, List.getElem_cons_zero, List.getElem_cons_succ, List.setIfInBounds_toArray, List.set_cons_zero, List.set_cons_succ]
      refine wpAnyY_take (i := 4) (v := ?_) rfl (by kernel_rfl) (by kernel_rfl) (by kernel_rfl) (by kernel_rfl) (fun _ _ _ h => h) (Or.inl ⟨by kernel_rfl, ?_⟩) hS ?_
      rotate_left
      · intro w' hSw; go_simp; with_reducible rfl
      try simp only [Act.put, List.getElem_toArray, List.getElem_cons_zero, List.getElem_cons_succ, List.setIfInBounds_toArray, List.set_cons_zero, List.set_cons_succ]
      refine wpAnyY_take (i := 5) (v := ?_) rfl (by kernel_rfl) (by kernel_rfl) (by kernel_rfl) (by kernel_rfl) (fun _ _ _ h => h) (Or.inl ⟨by kernel_rfl, ?_⟩) hS ?_
      rotate_left
      · intro w' hSw; go_simp; with_reducible rfl
      try simp only [Act.put, List.getElem_toArray, List.getElem_cons_zero, List.getElem_cons_succ, List.setIfInBounds_toArray, List.set_cons_zero, List.set_cons_succ]
      refine wpAnyY_take (i := 6) (v := ?_) rfl (by kernel_rfl) (by kernel_rfl) (by kernel_rfl) (by kernel_rfl) (fun _ _ _ h => h) (Or.inl ⟨by kernel_rfl, ?_⟩) hS ?_
      rotate_left
      · intro w' hSw; obtain ⟨y0, y1, y2, y3⟩ := hSw; go_simp; with_reducible rfl
      try simp only [Act.put, List.getElem_toArray, List.getElem_cons_zero, List.getElem_cons_succ, List.setIfInBounds_toArray, List.set_cons_zero, List.set_cons_succ]
      refine wpAnyY_oneSW (i := 7) (by kernel_rfl) rfl (by kernel_rfl) (fun K7 hK7 => ?_)
      go_simp
      refine (HB.out _ _ _ _ _).mono ?_
      rintro e w5 ⟨rfl, hG5⟩
      have gd := (G.rf wo).d.t hG5
      refine hK7.out _ _ (hSk _ gd) (fun hS => ?_)
      try simp only [Act.put, List.getElem_toArray, List.getElem_cons_zero, List.getElem_cons_succ, List.setIfInBounds_toArray, List.set_cons_zero, List.set_cons_succ]
      refine wpAnyY_take (i := 8) (v := ?_) rfl (by kernel_rfl) (by kernel_rfl) (by kernel_rfl) (by kernel_rfl) (fun _ _ _ h => h) (Or.inl ⟨by kernel_rfl, ?_⟩) hS ?_
      rotate_left
      · intro w' hSw; go_simp; with_reducible rfl
      try simp only [Act.put, List.getElem_toArray, List.getElem_cons_zero, List.getElem_cons_succ, List.setIfInBounds_toArray, List.set_cons_zero, List.set_cons_succ]
      refine wpAnyY_oneW (i := 9) (by kernel_rfl) rfl (by kernel_rfl) (by kernel_rfl) (fun K9 hK9 => ?_)
      have B := ha.keep gd
      have c0 := B.cell 4
      have c1 := B.cell 5
      have z0 := B.frozen 4
      have z1 := B.frozen 5
      have lB := B.lt
      go_simp
      refine hK9.out _ _ ?_
      try simp only [Act.put, List.getElem_toArray, List.getElem_cons_zero, List.getElem_cons_succ, List.setIfInBounds_toArray, List.set_cons_zero, List.set_cons_succ]
      refine wpAnyY_done (by kernel_rfl) ?_ _
      clear hS hSk hK7 hK9 c0 c1 z0 z1 lB
      go_wp2_with fail
      go_roundw
      case rel =>
        have ne1 : w.heap.size + 1 ≠ w.heap.size := by omega
        have ne2 : w.heap.size + 1 + 1 ≠ w.heap.size := by omega
        refine ⟨((hG.t gd).s (p := ⟨w.heap.size, 4, none⟩) (Nat.le_refl _) _).s (p := ⟨w.heap.size, 5, none⟩) (Nat.le_refl _) _, ((hb.keep gd).far (p := ⟨w.heap.size, 4, none⟩) ne1 _).far (p := ⟨w.heap.size, 5, none⟩) ne1 _, ((hz.keep gd).far (p := ⟨w.heap.size, 4, none⟩) ne2 _).far (p := ⟨w.heap.size, 5, none⟩) ne2 _, .inr (.inr (.inr (⟨rfl, ?_⟩)))⟩
        have b' := (B.set_ 4 (.int .i64 (max a.hl b.hl))).set_ 5 (.int .i64 (min a.hh b.hh))
        simp only [List.setIfInBounds_toArray, List.set_cons_zero, List.set_cons_succ] at b'
        exact b'
      case measure => simp [intOf]
    · replace ha : Blk wo w.heap.size 102 (a.both b).v := ha
      have h0 : (3 : Int) < 3 ↔ False := by simp
      go_upto_region 6 with fail
      refine wp_region_lit ?_
      refine wpList_load102 w.heap.size 2 rfl rfl rfl ha ?_
      try simp only [Act.put, List.getElem_toArray, List.getElem_cons_zero, List.getElem_cons_succ, List.setIfInBounds_toArray, List.set_cons_zero, List.set_cons_succ]
      refine wpList_store102 (w.heap.size + 1 + 1) 4 19 (x := sk0) rfl rfl rfl rfl hz fun W2 hB2 hF2 hG2 => ?_
      try simp only [Act.put, List.getElem_toArray, List.getElem_cons_zero, List.getElem_cons_succ, List.setIfInBounds_toArray, List.set_cons_zero, List.set_cons_succ]
      have hGG := hG2 w (by omega) hG
      clear hF2 hG2
      go_wp2_with fail
      exact bodyPost_ret (resSky Try.f102 4 _ _ (w.heap.size + 1 + 1) (a.both b) rfl rfl hB2) rfl ⟨rfl, hGG⟩
end Go.Proofs.Ytcekdljjmfkacaa
