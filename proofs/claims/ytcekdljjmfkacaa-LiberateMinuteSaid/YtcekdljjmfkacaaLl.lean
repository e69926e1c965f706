import Derived.Test.YtcekdljjmfkacaaLx
set_option linter.unusedSimpArgs false
set_option linter.unusedVariables false
namespace Go.Proofs.Ytcekdljjmfkacaa
open Go.RowKit
attribute [local go_sem] Oper.semAt_some
theorem load46 (w : World) (g t : Nat) {a0 a1 a3 a5 a6 a7 a9 a10 a12 a13 a14 a15 a16 : Int} {ea sa ha fa : Option Addr} {el ec sl sc hl hc fl fc : Nat} (op : Oper) (ev : Operand → Value) (ho : op.op = .load 35 (.tmp t)) (hv : ev (.tmp t) = .pointer (some ⟨g, 0, none⟩)) (hB : Blk w g 35 #[.int .i64 a0, .int .i64 a1, .slice ea el ec, .int .i64 a3, .slice sa sl sc, .int .i64 a5, .int .i64 a6, .int .i64 a7, .slice ha hl hc, .int .i64 a9, .int .i64 a10, .slice fa fl fc, .int .i64 a12, .int .i64 a13, .int .i64 a14, .int .i64 a15, .int .i64 a16]) :
    (execOp ev op).run Try.prog w = .ok (.value (.agg #[.int .i64 a0, .int .i64 a1, .slice ea el ec, .int .i64 a3, .slice sa sl sc, .int .i64 a5, .int .i64 a6, .int .i64 a7, .slice ha hl hc, .int .i64 a9, .int .i64 a10, .slice fa fl fc, .int .i64 a12, .int .i64 a13, .int .i64 a14, .int .i64 a15, .int .i64 a16])) w := by
  have c0 : w.cell? ⟨g, 0, none⟩ = some (.int .i64 a0) := hB.cell 0
  have c1 : w.cell? ⟨g, 1, none⟩ = some (.int .i64 a1) := hB.cell 1
  have c2 : w.cell? ⟨g, 2, none⟩ = some (.slice ea el ec) := hB.cell 2
  have c3 : w.cell? ⟨g, 3, none⟩ = some (.int .i64 a3) := hB.cell 3
  have c4 : w.cell? ⟨g, 4, none⟩ = some (.slice sa sl sc) := hB.cell 4
  have c5 : w.cell? ⟨g, 5, none⟩ = some (.int .i64 a5) := hB.cell 5
  have c6 : w.cell? ⟨g, 6, none⟩ = some (.int .i64 a6) := hB.cell 6
  have c7 : w.cell? ⟨g, 7, none⟩ = some (.int .i64 a7) := hB.cell 7
  have c8 : w.cell? ⟨g, 8, none⟩ = some (.slice ha hl hc) := hB.cell 8
  have c9 : w.cell? ⟨g, 9, none⟩ = some (.int .i64 a9) := hB.cell 9
  have c10 : w.cell? ⟨g, 10, none⟩ = some (.int .i64 a10) := hB.cell 10
  have c11 : w.cell? ⟨g, 11, none⟩ = some (.slice fa fl fc) := hB.cell 11
  have c12 : w.cell? ⟨g, 12, none⟩ = some (.int .i64 a12) := hB.cell 12
  have c13 : w.cell? ⟨g, 13, none⟩ = some (.int .i64 a13) := hB.cell 13
  have c14 : w.cell? ⟨g, 14, none⟩ = some (.int .i64 a14) := hB.cell 14
  have c15 : w.cell? ⟨g, 15, none⟩ = some (.int .i64 a15) := hB.cell 15
  have c16 : w.cell? ⟨g, 16, none⟩ = some (.int .i64 a16) := hB.cell 16
  clear hB
  unfold execOp
  simp only [ho, hv]
  go_simp
end Go.Proofs.Ytcekdljjmfkacaa
