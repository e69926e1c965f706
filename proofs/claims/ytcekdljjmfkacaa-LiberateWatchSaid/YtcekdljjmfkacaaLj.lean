import Derived.Test.YtcekdljjmfkacaaLx
set_option linter.unusedSimpArgs false
set_option linter.unusedVariables false
namespace Go.Proofs.Ytcekdljjmfkacaa
open Go.RowKit
attribute [local go_sem] Oper.semAt_some

theorem res25 (tmps : Array Value) (w : World) (g : Nat) (x y : Int) (h : tmps.getD 4 undef = .pointer (some ⟨g, 0, none⟩)) (c0 : w.cell? ⟨g, 0, none⟩ = some (.int .i64 x)) (c1 : w.cell? ⟨g, 1, none⟩ = some (.int .i64 y)) :
    (results Try.f37 tmps).run Try.prog w = .ok (.agg #[.int .i64 x, .int .i64 y]) w := by
  have hr : Try.f37.results = #[.cell 4 30] := rfl
  have h' : tmps[4]?.getD undef = .pointer (some ⟨g, 0, none⟩) := by simpa using h
  simp only [results, hr]
  go_simp
theorem passed_any (x y lo hi m : Int) (w : World) (h1 : -1000000000000 ≤ lo ∧ lo ≤ 1000000000000) (h2 : -1000000000000 ≤ hi ∧ hi ≤ 1000000000000) (h3 : -1000000000000 ≤ m ∧ m ≤ 1000000000000) :
    Calls Try.prog 37 #[.agg #[.int .i64 x, .int .i64 y, .int .i64 lo, .int .i64 hi], .int .i64 m] w fun e w' => e = .returned (.agg #[.int .i64 (m + lo), .int .i64 (m + hi)]) ∧ G w w' := by
  have x1 : IntKind.i64.wrap (m + lo) = m + lo := IntWalk.i64_in _ (by omega)
  have x2 : IntKind.i64.wrap (m + hi) = m + hi := IntWalk.i64_in _ (by omega)
  obtain ⟨g0, b0, b1⟩ := w2_spec w #[.int .i64 x, .int .i64 y, .int .i64 lo, .int .i64 hi] #[.int .i64 0, .int .i64 0] 88 30
  go_enter Try.func37, Try.ntmps37
  go_wp2
  have b2 : Blk ((w.alloc (.cells #[.int .i64 x, .int .i64 y, .int .i64 lo, .int .i64 hi] 88)).alloc (.cells #[.int .i64 (m + lo), .int .i64 (m + hi)] 30)) (w.heap.size + 1) 30 #[.int .i64 (m + lo), .int .i64 (m + hi)] := Blk.new1 w _ _ _
  exact bodyPost_ret (res25 _ _ (w.heap.size + 1) _ _ rfl (b2.cell 0) (b2.cell 1)) rfl ⟨rfl, ((G.rf _).a _).a _⟩
end Go.Proofs.Ytcekdljjmfkacaa
