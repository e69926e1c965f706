import Derived.Test.YtcekdljjmfkacaaGreatXb
set_option linter.unusedSimpArgs false
set_option linter.unusedVariables false
namespace Go.Proofs.YtcekdljjmfkacaaGreat
open Go.RowKit
attribute [local go_sem] Oper.semAt_some

theorem far_trans {W W1 : World} {g : Nat} (h : ∀ b, b ≠ g → W1.heap[b]? = W.heap[b]?) (i : Nat) (u : Value) : ∀ b, b ≠ g → (W1.setCell ⟨g, i, none⟩ u).heap[b]? = W.heap[b]? := fun b hb => (Below.heap_setCell W1 ⟨g, i, none⟩ u b hb).trans (h b hb)
set_option maxRecDepth 100000 in
set_option maxHeartbeats 4000000 in
theorem store46 (W : World) (g t s : Nat) {OLD REL : Array Value} (hO : IsRel OLD) (hR : IsRel REL) (op : Oper) (ev : Operand → Value) (ho : op.op = .store 35 (.tmp t) (.tmp s)) (hv : ev (.tmp t) = .pointer (some ⟨g, 0, none⟩)) (hs : ev (.tmp s) = .agg REL) (hB : Blk W g 35 OLD) :
    ∃ W2, (execOp ev op).run Tryz.prog W = .ok .skip W2 ∧ Blk W2 g 35 REL ∧ (∀ b, b ≠ g → W2.heap[b]? = W.heap[b]?) ∧ ∀ w0 : World, w0.heap.size ≤ g → G w0 W → G w0 W2 := by
  obtain ⟨y0, y1, q2, m2, n2, y3, q4, m4, n4, y5, y6, y7, q8, m8, n8, y9, y10, q11, m11, n11, y12, y13, y14, y15, y16, rfl⟩ := hO
  obtain ⟨x0, x1, p2, l2, k2, x3, p4, l4, k4, x5, x6, x7, p8, l8, k8, x9, x10, p11, l11, k11, x12, x13, x14, x15, x16, rfl⟩ := hR
  have c0 : W.cell? ⟨g, 0, none⟩ = some (.int .i64 y0) := hB.cell 0
  have z0 := hB.frozen 0
  have c1 : W.cell? ⟨g, 1, none⟩ = some (.int .i64 y1) := hB.cell 1
  have z1 := hB.frozen 1
  have c2 : W.cell? ⟨g, 2, none⟩ = some (.slice q2 m2 n2) := hB.cell 2
  have z2 := hB.frozen 2
  have c3 : W.cell? ⟨g, 3, none⟩ = some (.int .i64 y3) := hB.cell 3
  have z3 := hB.frozen 3
  have c4 : W.cell? ⟨g, 4, none⟩ = some (.slice q4 m4 n4) := hB.cell 4
  have z4 := hB.frozen 4
  have c5 : W.cell? ⟨g, 5, none⟩ = some (.int .i64 y5) := hB.cell 5
  have z5 := hB.frozen 5
  have c6 : W.cell? ⟨g, 6, none⟩ = some (.int .i64 y6) := hB.cell 6
  have z6 := hB.frozen 6
  have c7 : W.cell? ⟨g, 7, none⟩ = some (.int .i64 y7) := hB.cell 7
  have z7 := hB.frozen 7
  have c8 : W.cell? ⟨g, 8, none⟩ = some (.slice q8 m8 n8) := hB.cell 8
  have z8 := hB.frozen 8
  have c9 : W.cell? ⟨g, 9, none⟩ = some (.int .i64 y9) := hB.cell 9
  have z9 := hB.frozen 9
  have c10 : W.cell? ⟨g, 10, none⟩ = some (.int .i64 y10) := hB.cell 10
  have z10 := hB.frozen 10
  have c11 : W.cell? ⟨g, 11, none⟩ = some (.slice q11 m11 n11) := hB.cell 11
  have z11 := hB.frozen 11
  have c12 : W.cell? ⟨g, 12, none⟩ = some (.int .i64 y12) := hB.cell 12
  have z12 := hB.frozen 12
  have c13 : W.cell? ⟨g, 13, none⟩ = some (.int .i64 y13) := hB.cell 13
  have z13 := hB.frozen 13
  have c14 : W.cell? ⟨g, 14, none⟩ = some (.int .i64 y14) := hB.cell 14
  have z14 := hB.frozen 14
  have c15 : W.cell? ⟨g, 15, none⟩ = some (.int .i64 y15) := hB.cell 15
  have z15 := hB.frozen 15
  have c16 : W.cell? ⟨g, 16, none⟩ = some (.int .i64 y16) := hB.cell 16
  have z16 := hB.frozen 16
  have lB := hB.lt
  refine ⟨(((((((((((((((((W).setCell ⟨g, 0, none⟩ (.int .i64 x0)).setCell ⟨g, 1, none⟩ (.int .i64 x1)).setCell ⟨g, 2, none⟩ (.slice p2 l2 k2)).setCell ⟨g, 3, none⟩ (.int .i64 x3)).setCell ⟨g, 4, none⟩ (.slice p4 l4 k4)).setCell ⟨g, 5, none⟩ (.int .i64 x5)).setCell ⟨g, 6, none⟩ (.int .i64 x6)).setCell ⟨g, 7, none⟩ (.int .i64 x7)).setCell ⟨g, 8, none⟩ (.slice p8 l8 k8)).setCell ⟨g, 9, none⟩ (.int .i64 x9)).setCell ⟨g, 10, none⟩ (.int .i64 x10)).setCell ⟨g, 11, none⟩ (.slice p11 l11 k11)).setCell ⟨g, 12, none⟩ (.int .i64 x12)).setCell ⟨g, 13, none⟩ (.int .i64 x13)).setCell ⟨g, 14, none⟩ (.int .i64 x14)).setCell ⟨g, 15, none⟩ (.int .i64 x15)).setCell ⟨g, 16, none⟩ (.int .i64 x16), ?_, ?_, ?_, fun w0 hg hG => (((((((((((((((((hG).s (p := ⟨g, 0, none⟩) hg (.int .i64 x0)).s (p := ⟨g, 1, none⟩) hg (.int .i64 x1)).s (p := ⟨g, 2, none⟩) hg (.slice p2 l2 k2)).s (p := ⟨g, 3, none⟩) hg (.int .i64 x3)).s (p := ⟨g, 4, none⟩) hg (.slice p4 l4 k4)).s (p := ⟨g, 5, none⟩) hg (.int .i64 x5)).s (p := ⟨g, 6, none⟩) hg (.int .i64 x6)).s (p := ⟨g, 7, none⟩) hg (.int .i64 x7)).s (p := ⟨g, 8, none⟩) hg (.slice p8 l8 k8)).s (p := ⟨g, 9, none⟩) hg (.int .i64 x9)).s (p := ⟨g, 10, none⟩) hg (.int .i64 x10)).s (p := ⟨g, 11, none⟩) hg (.slice p11 l11 k11)).s (p := ⟨g, 12, none⟩) hg (.int .i64 x12)).s (p := ⟨g, 13, none⟩) hg (.int .i64 x13)).s (p := ⟨g, 14, none⟩) hg (.int .i64 x14)).s (p := ⟨g, 15, none⟩) hg (.int .i64 x15)).s (p := ⟨g, 16, none⟩) hg (.int .i64 x16)⟩
  · clear hB
    unfold execOp
    simp only [ho, hv, hs]
    go_simp
  · have b := (((((((((((((((((hB).set_ 0 (.int .i64 x0)).set_ 1 (.int .i64 x1)).set_ 2 (.slice p2 l2 k2)).set_ 3 (.int .i64 x3)).set_ 4 (.slice p4 l4 k4)).set_ 5 (.int .i64 x5)).set_ 6 (.int .i64 x6)).set_ 7 (.int .i64 x7)).set_ 8 (.slice p8 l8 k8)).set_ 9 (.int .i64 x9)).set_ 10 (.int .i64 x10)).set_ 11 (.slice p11 l11 k11)).set_ 12 (.int .i64 x12)).set_ 13 (.int .i64 x13)).set_ 14 (.int .i64 x14)).set_ 15 (.int .i64 x15)).set_ 16 (.int .i64 x16)
    simp only [List.setIfInBounds_toArray, List.set_cons_zero, List.set_cons_succ] at b
    exact b
  · exact far_trans (far_trans (far_trans (far_trans (far_trans (far_trans (far_trans (far_trans (far_trans (far_trans (far_trans (far_trans (far_trans (far_trans (far_trans (far_trans (far_trans (fun _ _ => rfl) 0 (.int .i64 x0)) 1 (.int .i64 x1)) 2 (.slice p2 l2 k2)) 3 (.int .i64 x3)) 4 (.slice p4 l4 k4)) 5 (.int .i64 x5)) 6 (.int .i64 x6)) 7 (.int .i64 x7)) 8 (.slice p8 l8 k8)) 9 (.int .i64 x9)) 10 (.int .i64 x10)) 11 (.slice p11 l11 k11)) 12 (.int .i64 x12)) 13 (.int .i64 x13)) 14 (.int .i64 x14)) 15 (.int .i64 x15)) 16 (.int .i64 x16)
theorem res13 (tmps : Array Value) (w : World) (g : Nat) {REL : Array Value} (hR : IsRel REL) (h : tmps.getD 0 undef = .pointer (some ⟨g, 0, none⟩)) (hB : Blk w g 35 REL) :
    (results Tryz.f28 tmps).run Tryz.prog w = .ok (.agg REL) w := by
  obtain ⟨x0, x1, p2, l2, k2, x3, p4, l4, k4, x5, x6, x7, p8, l8, k8, x9, x10, p11, l11, k11, x12, x13, x14, x15, x16, rfl⟩ := hR
  have c0 : w.cell? ⟨g, 0, none⟩ = some (.int .i64 x0) := hB.cell 0
  have c1 : w.cell? ⟨g, 1, none⟩ = some (.int .i64 x1) := hB.cell 1
  have c2 : w.cell? ⟨g, 2, none⟩ = some (.slice p2 l2 k2) := hB.cell 2
  have c3 : w.cell? ⟨g, 3, none⟩ = some (.int .i64 x3) := hB.cell 3
  have c4 : w.cell? ⟨g, 4, none⟩ = some (.slice p4 l4 k4) := hB.cell 4
  have c5 : w.cell? ⟨g, 5, none⟩ = some (.int .i64 x5) := hB.cell 5
  have c6 : w.cell? ⟨g, 6, none⟩ = some (.int .i64 x6) := hB.cell 6
  have c7 : w.cell? ⟨g, 7, none⟩ = some (.int .i64 x7) := hB.cell 7
  have c8 : w.cell? ⟨g, 8, none⟩ = some (.slice p8 l8 k8) := hB.cell 8
  have c9 : w.cell? ⟨g, 9, none⟩ = some (.int .i64 x9) := hB.cell 9
  have c10 : w.cell? ⟨g, 10, none⟩ = some (.int .i64 x10) := hB.cell 10
  have c11 : w.cell? ⟨g, 11, none⟩ = some (.slice p11 l11 k11) := hB.cell 11
  have c12 : w.cell? ⟨g, 12, none⟩ = some (.int .i64 x12) := hB.cell 12
  have c13 : w.cell? ⟨g, 13, none⟩ = some (.int .i64 x13) := hB.cell 13
  have c14 : w.cell? ⟨g, 14, none⟩ = some (.int .i64 x14) := hB.cell 14
  have c15 : w.cell? ⟨g, 15, none⟩ = some (.int .i64 x15) := hB.cell 15
  have c16 : w.cell? ⟨g, 16, none⟩ = some (.int .i64 x16) := hB.cell 16
  clear hB
  have hr : Tryz.f28.results = #[.cell 0 35] := rfl
  have h' : tmps[0]?.getD undef = .pointer (some ⟨g, 0, none⟩) := by simpa using h
  simp only [results, hr]
  go_simp
end Go.Proofs.YtcekdljjmfkacaaGreat
