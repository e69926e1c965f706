set_option linter.unusedSimpArgs false
set_option linter.unusedVariables false
namespace Go.Proofs.Ytpjfdfddcnocpaa
/-- binary search for the root: lo*lo ≤ n < hi*hi -/
def rtGo : Nat → Nat → Nat → Nat → Nat
  | 0, lo, _, _ => lo
  | f + 1, lo, hi, n => if hi ≤ lo + 1 then lo else if ((lo + hi) / 2) * ((lo + hi) / 2) ≤ n then rtGo f ((lo + hi) / 2) hi n else rtGo f lo ((lo + hi) / 2) n
def rt (n : Nat) : Nat := rtGo 32 0 4294967296 n

theorem rtGo_spec (f lo hi n : Nat) (hf : hi - lo ≤ 2 ^ f) (h1 : lo * lo ≤ n) (h2 : n < hi * hi) (h3 : lo < hi) :
    rtGo f lo hi n * rtGo f lo hi n ≤ n ∧ n < (rtGo f lo hi n + 1) * (rtGo f lo hi n + 1) := by
  induction f generalizing lo hi with
  | zero =>
    have : hi = lo + 1 := by simp at hf; omega
    subst this
    exact ⟨h1, h2⟩
  | succ f ih =>
    unfold rtGo
    have hp : 2 ^ (f + 1) = 2 * 2 ^ f := by rw [Nat.pow_succ]; omega
    split
    · have : hi = lo + 1 := by omega
      subst this
      exact ⟨h1, h2⟩
    · split
      · rename_i hc
        exact ih _ _ (by omega) hc h2 (by omega)
      · rename_i hc
        exact ih _ _ (by omega) h1 (by omega) (by omega)
theorem rt_spec (n : Nat) (h : n < 18446744073709551616) : rt n * rt n ≤ n ∧ n < (rt n + 1) * (rt n + 1) :=
  rtGo_spec 32 0 4294967296 n (by decide) (by omega) (by omega) (by omega)
theorem rt_unique (n k : Nat) (h : n < 18446744073709551616) (h1 : k * k ≤ n) (h2 : n < (k + 1) * (k + 1)) : rt n = k := by
  obtain ⟨a, b⟩ := rt_spec n h
  have c : ¬ k < rt n := fun hk => by
    have := Nat.mul_le_mul (show k + 1 ≤ rt n by omega) (show k + 1 ≤ rt n by omega)
    omega
  have d : ¬ rt n < k := fun hk => by
    have := Nat.mul_le_mul (show rt n + 1 ≤ k by omega) (show rt n + 1 ≤ k by omega)
    omega
  omega
theorem countP_cut (p : Nat → Bool) (k : Nat) : ∀ N, k ≤ N → (∀ t, t < k → p t = false) → (∀ t, k ≤ t → t < N → p t = true) → (List.range N).countP (fun i => !p i) = k
  | 0, h, _, _ => by simp; omega
  | N + 1, h, h1, h2 => by
    rw [List.range_succ, List.countP_append]
    by_cases e : k = N + 1
    · subst e
      have ih : (List.range N).countP (fun i => !p i) = N := by
        rw [List.countP_eq_length.2]
        · simp
        · intro a ha; simp at ha; simp [h1 a (by omega)]
      rw [ih]
      simp [h1 N (by omega)]
    · rw [countP_cut p k N (by omega) h1 (fun t a b => h2 t a (by omega))]
      simp [h2 N (by omega) (by omega)]
theorem rt_le (n k : Nat) (h : n < 18446744073709551616) (h2 : n < (k + 1) * (k + 1)) : rt n ≤ k := by
  obtain ⟨a, b⟩ := rt_spec n h
  apply Nat.le_of_not_lt
  intro hk
  have := Nat.mul_le_mul (show k + 1 ≤ rt n by omega) (show k + 1 ≤ rt n by omega)
  omega
theorem rt_count (n N : Nat) (h : n < 18446744073709551616) (h2 : n < (N + 1) * (N + 1)) :
    (List.range N).countP (fun r => !decide (n < (r + 1) * (r + 1))) = rt n := by
  obtain ⟨a, b⟩ := rt_spec n h
  refine countP_cut (fun r => decide (n < (r + 1) * (r + 1))) (rt n) N (rt_le n N h h2) (fun t ht => ?_) (fun t ht _ => ?_)
  · have := Nat.mul_le_mul (show t + 1 ≤ rt n by omega) (show t + 1 ≤ rt n by omega)
    simp; omega
  · have := Nat.mul_le_mul (show rt n + 1 ≤ t + 1 by omega) (show rt n + 1 ≤ t + 1 by omega)
    simp; omega
end Go.Proofs.Ytpjfdfddcnocpaa
