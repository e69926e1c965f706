import Derived.Test.YtcekdljjmfkacaaLa
set_option linter.unusedSimpArgs false
set_option linter.unusedVariables false
namespace Go.Proofs.Ytcekdljjmfkacaa
open Go.RowKit
attribute [local go_sem] Oper.semAt_some

theorem wrap_tdiv (a b : Nat) (ha : a ≤ 9000000000000000000) : wrap64 ((a : Int).tdiv b) = ((a / b : Nat) : Int) := by
  have h : a / b ≤ a := Nat.div_le_self _ _
  have e : (a : Int).tdiv b = ((a / b : Nat) : Int) := rfl
  rw [e]
  generalize a / b = q at *
  exact IntWalk.wrap64_in _ (by omega)
/-- the number after k of n steps -/
def btw (f t k n : Nat) : Nat := (2 * (f * (n - k) + t * k) + n) / (2 * n)
set_option maxHeartbeats 1000000 in
theorem lBetween_any (f t k n : Nat) (w : World) (hf : f ≤ 100) (ht : t ≤ 100) (hk : k ≤ n) (hn : 1 ≤ n) (hn2 : n ≤ 100) : Calls Try.prog 60 #[.int .i64 f, .int .i64 t, .int .i64 k, .int .i64 n] w fun e w' => e = .returned (.int .i64 (btw f t k n : Nat)) ∧ G w w' := by
  have m1 : f * (n - k) ≤ 100 * 100 := Nat.mul_le_mul hf (by omega)
  have m2 : t * k ≤ 100 * 100 := Nat.mul_le_mul ht (by omega)
  obtain ⟨a, ha⟩ : ∃ a, a = f * (n - k) := ⟨_, rfl⟩
  obtain ⟨b, hb⟩ : ∃ b, b = t * k := ⟨_, rfl⟩
  have x0 : IntKind.i64.wrap ((n : Int) - k) = ((n - k : Nat) : Int) := by rw [IntWalk.i64_in _ (by omega)]; omega
  have x1 : IntKind.i64.wrap ((f : Int) * ((n - k : Nat) : Int)) = (a : Nat) := by rw [← Int.natCast_mul, ← ha]; exact IntWalk.i64_in _ (by omega)
  have x2 : IntKind.i64.wrap ((t : Int) * k) = (b : Nat) := by rw [← Int.natCast_mul, ← hb]; exact IntWalk.i64_in _ (by omega)
  have x3 : IntKind.i64.wrap ((a : Int) + b) = (a : Int) + b := IntWalk.i64_in _ (by omega)
  have x4 : IntKind.i64.wrap (2 * ((a : Int) + b)) = 2 * ((a : Int) + b) := IntWalk.i64_in _ (by omega)
  have x5 : IntKind.i64.wrap (2 * ((a : Int) + b) + n) = 2 * ((a : Int) + b) + n := IntWalk.i64_in _ (by omega)
  have x6 : IntKind.i64.wrap (2 * (n : Int)) = 2 * (n : Int) := IntWalk.i64_in _ (by omega)
  have x7 : wrap64 ((2 * ((a : Int) + b) + n).tdiv (2 * n)) = (btw f t k n : Nat) := by
    have e1 : 2 * ((a : Int) + b) + n = ((2 * (a + b) + n : Nat) : Int) := by omega
    have e2 : 2 * (n : Int) = ((2 * n : Nat) : Int) := by omega
    rw [e1, e2, wrap_tdiv _ _ (by omega)]
    unfold btw
    rw [ha, hb]
  have hb0 : (2 * (n : Int) == 0) = false := by simp; omega
  have HX := Lib.hid x7
  clear x7 ha hb m1 m2
  go_enter Try.func60, Try.ntmps60
  go_wp2
  go_ret
  exact ⟨by rw [← HX.out]; rfl, G.rf _⟩
end Go.Proofs.Ytcekdljjmfkacaa
