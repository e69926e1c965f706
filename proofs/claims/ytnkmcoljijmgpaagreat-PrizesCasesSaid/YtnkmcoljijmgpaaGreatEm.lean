import Derived.Test.YtnkmcoljijmgpaaGreatEk
import Derived.Test.YtnkmcoljijmgpaaGreatEa
set_option linter.unusedSimpArgs false
set_option linter.unusedVariables false
namespace Go.Proofs.YtnkmcoljijmgpaaGreat
open Go.RowKit Go.Shelf Go.Sort Go.Maps
attribute [local go_sem] Oper.semAt_some
theorem naQ0 (r : Ra) (p : Int) (n : Nat) (w : World) (h : r.At w) (hn : (namedL r p).length = n) : Calls Tryz.prog 16 #[.agg r.v, .int .i64 p] w fun e w' => G w w' ∧ ∃ a c, e = .returned (.slice a n c) ∧ IntsAt w' a (namedL r p) := by
  refine (Named_any r p w h h.nr).mono ?_
  rintro e w' ⟨hG, v, rfl, ho⟩
  obtain ⟨a, c, rfl, hI⟩ := own_ints ho
  exact ⟨hG, a, c, by rw [hn], hI⟩
end Go.Proofs.YtnkmcoljijmgpaaGreat
