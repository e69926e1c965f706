set_option linter.unusedSimpArgs false
set_option linter.unusedVariables false
namespace Go.Proofs.Ytpjfdfddcnocpaa
theorem sq_scale (x t : Int) : (x * t) * (x * t) = t * t * (x * x) := by
  rw [Int.mul_assoc, Int.mul_left_comm t x t, ← Int.mul_assoc x x, Int.mul_comm]
theorem natsq_scale (x t : Nat) : (t * x) * (t * x) = t * t * (x * x) := Nat.mul_mul_mul_comm t x t x
theorem getD_scale (l : List Int) (t : Int) (k : Nat) : (l.map (· * t)).getD k 0 = l.getD k 0 * t := by
  rw [List.getD_eq_getElem?_getD, List.getD_eq_getElem?_getD, List.getElem?_map]
  cases l[k]? <;> simp
theorem scale_core (n t d d2 : Nat) (ht : 1 ≤ t) (h1 : 4 * d * d ≤ n) (h2 : n < 4 * (d + 1) * (d + 1)) (k1 : 4 * d2 * d2 ≤ t * t * n) (k2 : t * t * n < 4 * (d2 + 1) * (d2 + 1)) : t * d ≤ d2 ∧ d2 < t * (d + 1) := by
  rw [Nat.mul_assoc] at h1 h2 k1
  rw [Nat.mul_assoc 4] at k2
  constructor
  · apply Nat.le_of_not_lt
    intro hlt
    have a1 := Nat.mul_le_mul (show d2 + 1 ≤ t * d by omega) (show d2 + 1 ≤ t * d by omega)
    rw [natsq_scale] at a1
    have a2 := Nat.mul_le_mul (Nat.le_refl (t * t)) h1
    rw [Nat.mul_left_comm] at a2
    generalize t * t * (d * d) = A at *
    generalize t * t * n = B at *
    generalize (d2 + 1) * (d2 + 1) = C at *
    omega
  · apply Nat.lt_of_not_le
    intro hle
    have a1 := Nat.mul_le_mul hle hle
    rw [natsq_scale] at a1
    have a2 := Nat.mul_lt_mul_of_pos_left h2 (Nat.mul_pos ht ht)
    rw [Nat.mul_left_comm (t * t)] at a2
    generalize t * t * ((d + 1) * (d + 1)) = A at *
    generalize t * t * n = B at *
    generalize d2 * d2 = C at *
    omega
end Go.Proofs.Ytpjfdfddcnocpaa
