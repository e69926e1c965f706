import Derived.Test.YtpjfdfddcnocpaaTe
import Derived.Test.YtpjfdfddcnocpaaRb
set_option linter.unusedSimpArgs false
set_option linter.unusedVariables false
namespace Go.Proofs.Ytpjfdfddcnocpaa
open Go.RowKit
attribute [local go_sem] Oper.semAt_some

def exEast : List Int := [800, 700, 600]
def exSvs : List Sv := [⟨0, 1, 0, 1, 0, 0, 0, 0, 0, 0⟩, ⟨0, 2, 0, 0, 0, 0, 3, 0, 1601, 2400⟩, ⟨1, 1, 2, 3, 1, 2, 0, 0, 0, 0⟩, ⟨1, 2, 0, 0, 0, 0, 0, 0, 1800, 2300⟩]
def exCells : Array Value := #[.int .i64 0, .int .i64 1, .int .i64 0, .int .i64 1, .int .i64 0, .int .i64 0, .int .i64 0, .int .i64 0, .int .i64 0, .int .i64 0, .int .i64 0, .int .i64 2, .int .i64 0, .int .i64 0, .int .i64 0, .int .i64 0, .int .i64 3, .int .i64 0, .int .i64 1601, .int .i64 2400, .int .i64 1, .int .i64 1, .int .i64 2, .int .i64 3, .int .i64 1, .int .i64 2, .int .i64 0, .int .i64 0, .int .i64 0, .int .i64 0, .int .i64 1, .int .i64 2, .int .i64 0, .int .i64 0, .int .i64 0, .int .i64 0, .int .i64 0, .int .i64 0, .int .i64 1800, .int .i64 2300]
theorem res52 (tmps : Array Value) (w : World) (g : Nat) (v0 v1 v2 v3 v4 v5 : Value) (h : tmps.getD 0 undef = .pointer (some ⟨g, 0, none⟩)) (c0 : w.cell? ⟨g, 0, none⟩ = some v0) (c1 : w.cell? ⟨g, 1, none⟩ = some v1)
    (c2 : w.cell? ⟨g, 2, none⟩ = some v2) (c3 : w.cell? ⟨g, 3, none⟩ = some v3) (c4 : w.cell? ⟨g, 4, none⟩ = some v4) (c5 : w.cell? ⟨g, 5, none⟩ = some v5) :
    (results Try.f52 tmps).run Try.prog w = .ok (.agg #[v0, v1, v2, v3, v4, v5]) w := by
  have hr : Try.f52.results = #[.cell 0 25] := rfl
  have h' : tmps[0]?.getD undef = .pointer (some ⟨g, 0, none⟩) := by simpa using h
  simp only [results, hr]
  go_simp

set_option maxRecDepth 100000 in
set_option maxHeartbeats 4000000 in
theorem Example_any (w : World) : Calls Try.prog 52 #[] w fun e w' => ∃ gE gS, e = .returned (.agg #[.int .i64 1000, .int .i64 4, .slice (some ⟨gE, 0, none⟩) 3 3, .int .i64 2, .slice (some ⟨gS, 0, none⟩) 4 4, .int .i64 0]) ∧ G w w' ∧
    IntsAt w' (some ⟨gE, 0, none⟩) exEast ∧ SvsAt w' (some ⟨gS, 0, none⟩) exSvs := by
  go_enter Try.func52, Try.ntmps52
  go_wp2
  have B0 := ((Blk.new w 25 #[.int .i64 1000, .int .i64 4, .slice (some ⟨w.heap.size + 1, 0, none⟩) 3 3, .int .i64 2, .slice (some ⟨w.heap.size + 1 + 1, 0, none⟩) 4 4, .int .i64 0]).alloc (.cells #[.int .i64 800, .int .i64 700, .int .i64 600] 3)).alloc (.cells exCells 56)
  have B1 := (Blk.new1 w (.cells #[.int .i64 1000, .int .i64 4, .slice (some ⟨w.heap.size + 1, 0, none⟩) 3 3, .int .i64 2, .slice (some ⟨w.heap.size + 1 + 1, 0, none⟩) 4 4, .int .i64 0] 25) 3 #[.int .i64 800, .int .i64 700, .int .i64 600]).alloc (.cells exCells 56)
  have B2 := Blk.new2 w (.cells #[.int .i64 1000, .int .i64 4, .slice (some ⟨w.heap.size + 1, 0, none⟩) 3 3, .int .i64 2, .slice (some ⟨w.heap.size + 1 + 1, 0, none⟩) 4 4, .int .i64 0] 25) (.cells #[.int .i64 800, .int .i64 700, .int .i64 600] 3) 56 exCells
  refine bodyPost_ret (res52 _ _ w.heap.size _ _ _ _ _ _ rfl (B0.cell 0) (B0.cell 1) (B0.cell 2) (B0.cell 3) (B0.cell 4) (B0.cell 5)) rfl ?_
  refine ⟨w.heap.size + 1, w.heap.size + 1 + 1, rfl, (((G.rf w).a _).a _).a _, .inr ⟨_, 0, rfl, B1.lt, fun k hk => ?_⟩, .inr ⟨_, 0, rfl, B2.lt, fun k hk => ?_⟩⟩
  · have e := fun o => B1.cell o
    match k, hk with
    | 0, _ => exact e _
    | 1, _ => exact e _
    | 2, _ => exact e _
  · have e := fun o => B2.cell o
    match k, hk with
    | 0, _ => exact ⟨e _, e _, e _, e _, e _, e _, e _, e _, e _, e _⟩
    | 1, _ => exact ⟨e _, e _, e _, e _, e _, e _, e _, e _, e _, e _⟩
    | 2, _ => exact ⟨e _, e _, e _, e _, e _, e _, e _, e _, e _, e _⟩
    | 3, _ => exact ⟨e _, e _, e _, e _, e _, e _, e _, e _, e _, e _⟩
end Go.Proofs.Ytpjfdfddcnocpaa
