import Derived.Test.YtcekdljjmfkacaaOw
set_option linter.unusedSimpArgs false
set_option linter.unusedVariables false
namespace Go.Proofs.Ytcekdljjmfkacaa
open Go.RowKit Go.Shelf
attribute [local go_sem] Oper.semAt_some wide_fn wide_dep wideR_fn wideR_dep
theorem btw_step (f t k n : Nat) (hk : k + 1 ≤ n) (hd : -(n : Int) ≤ (t : Int) - f ∧ (t : Int) - f ≤ n) :
    (-1 ≤ ((btw f t (k + 1) n : Nat) : Int) - (btw f t k n : Nat) ∧ ((btw f t (k + 1) n : Nat) : Int) - (btw f t k n : Nat) ≤ 1) ∧ 0 ≤ (((btw f t (k + 1) n : Nat) : Int) - (btw f t k n : Nat)) * ((t : Int) - f) ∧
    (((t : Int) - f = n ∨ (t : Int) - f = -(n : Int)) → ((btw f t (k + 1) n : Nat) : Int) - (btw f t k n : Nat) ≠ 0) := by
  have e1 := btw_int f t k n (by omega) (by omega)
  have e2 := btw_int f t (k + 1) n hk (by omega)
  generalize (btw f t k n : Nat) = A at *
  generalize (btw f t (k + 1) n : Nat) = B at *
  generalize (t : Int) - f = D at *
  have hX : 2 * ((k + 1 : Nat) : Int) * D + n = (2 * (k : Int) * D + n) + 2 * D := by
    rw [Int.natCast_add, Int.mul_add, Int.add_mul]
    show 2 * (k : Int) * D + 2 * 1 * D + n = _
    omega
  rw [hX] at e2
  generalize 2 * (k : Int) * D + n = X at *
  have hc : (2 * (n : Int)) ≠ 0 := by omega
  have up : (X + 2 * n) / (2 * (n : Int)) = X / (2 * (n : Int)) + 1 := by
    have := Int.add_mul_ediv_right X 1 hc
    rwa [Int.one_mul] at this
  have dn : (X + -(2 * n)) / (2 * (n : Int)) = X / (2 * (n : Int)) - 1 := by
    have := Int.add_mul_ediv_right X (-1) hc
    rw [Int.neg_mul, Int.one_mul] at this
    omega
  have m1 : ∀ a b : Int, a ≤ b → a / (2 * (n : Int)) ≤ b / (2 * (n : Int)) := fun a b h => Int.ediv_le_ediv (by omega) h
  have hdB : (B : Int) - A = (X + 2 * D) / (2 * (n : Int)) - X / (2 * (n : Int)) := by omega
  rw [hdB]
  rcases Int.le_total 0 D with h | h
  · have a1 := m1 X (X + 2 * D) (by omega)
    have a2 := m1 (X + 2 * D) (X + 2 * n) (by omega)
    rw [up] at a2
    refine ⟨by omega, Int.mul_nonneg (by omega) h, fun hh => ?_⟩
    rcases hh with hh | hh
    · rw [hh, up]; omega
    · omega
  · have a1 := m1 (X + 2 * D) X (by omega)
    have a2 := m1 (X + -(2 * n)) (X + 2 * D) (by omega)
    rw [dn] at a2
    refine ⟨by omega, Int.mul_nonneg_of_nonpos_of_nonpos (by omega) h, fun hh => ?_⟩
    rcases hh with hh | hh
    · omega
    · rw [hh, show X + 2 * (-(n : Int)) = X + -(2 * n) by omega, dn]; omega
theorem btw_zero (f t n : Nat) (hn : 1 ≤ n) : btw f t 0 n = f := by
  have := btw_int f t 0 n (by omega) hn
  have e : (2 * ((0 : Nat) : Int) * ((t : Int) - f) + n) / (2 * (n : Int)) = 0 := by
    rw [Int.natCast_zero, Int.mul_zero, Int.zero_mul, Int.zero_add]
    exact Int.ediv_eq_zero_of_lt (by omega) (by omega)
  rw [e] at this
  omega
theorem btw_last (f t n : Nat) (hn : 1 ≤ n) : btw f t n n = t := by
  unfold btw
  rw [Nat.sub_self, Nat.mul_zero, Nat.zero_add]
  have e : 2 * (t * n) + n = n + t * (2 * n) := by rw [Nat.mul_left_comm]; omega
  rw [e, Nat.add_mul_div_right _ _ (by omega), Nat.div_eq_of_lt (by omega)]
  omega
theorem pbK_get (fx fy tx ty n j : Nat) (hn : 1 ≤ n) (hj : j ≤ n) : (pbK fx fy tx ty n n).getD j (0, 0) = (btw fx tx j n, btw fy ty j n) := by
  unfold pbK
  cases j with
  | zero => rw [btw_zero _ _ _ hn, btw_zero _ _ _ hn]; rfl
  | succ j =>
    have : j < n := by omega
    simp [List.getD, this]
theorem steps_cases (fx fy tx ty : Nat) : (-(stepsN fx fy tx ty : Int) ≤ (tx : Int) - fx ∧ (tx : Int) - fx ≤ stepsN fx fy tx ty) ∧ (-(stepsN fx fy tx ty : Int) ≤ (ty : Int) - fy ∧ (ty : Int) - fy ≤ stepsN fx fy tx ty) ∧
    (((tx : Int) - fx = stepsN fx fy tx ty ∨ (tx : Int) - fx = -(stepsN fx fy tx ty : Int)) ∨ ((ty : Int) - fy = stepsN fx fy tx ty ∨ (ty : Int) - fy = -(stepsN fx fy tx ty : Int))) := by
  unfold stepsN dst
  omega
/-- what is so of the places of a way -/
structure WayFacts (bx bY hx hy : Nat) (P : List (Nat × Nat)) : Prop where
  len : 1 ≤ P.length ∧ P.length ≤ 20
  first : P.getD 0 (0, 0) = (bx, bY)
  last : P.getD (P.length - 1) (0, 0) = (hx, hy)
  bound : ∀ j, j < P.length → (P.getD j (0, 0)).1 ≤ 99 ∧ (P.getD j (0, 0)).2 ≤ 99
  step : ∀ j, j + 1 < P.length → ∃ dx dy : Int, dx = ((P.getD (j + 1) (0, 0)).1 : Int) - (P.getD j (0, 0)).1 ∧ dy = ((P.getD (j + 1) (0, 0)).2 : Int) - (P.getD j (0, 0)).2 ∧ (-1 ≤ dx ∧ dx ≤ 1) ∧ (-1 ≤ dy ∧ dy ≤ 1) ∧ (dx ≠ 0 ∨ dy ≠ 0) ∧ 0 ≤ dx * ((hx : Int) - bx) ∧ 0 ≤ dy * ((hy : Int) - bY)
theorem wayFacts {r : Rl} (h : r.Nums) {i : Nat} (hi : i < r.n) : WayFacts r.bx r.bY (r.hx i) (r.hy i) (r.P i) := by
  have hl := Rl.ns_le h hi
  have hb := h.base
  have hh := h.homes i hi
  have hc := h.cols
  have hr := h.rows
  have hle : (r.P i).length = stepsN r.bx r.bY (r.hx i) (r.hy i) + 1 := r.ns_eq i
  have hbd : ∀ j, j < (r.P i).length → ((r.P i).getD j (0, 0)).1 ≤ 99 ∧ ((r.P i).getD j (0, 0)).2 ≤ 99 := fun j hj => by
    have := Rl.P_in h hi hj
    omega
  obtain ⟨s1, s2, s3⟩ := steps_cases r.bx r.bY (r.hx i) (r.hy i)
  have hst : stepsN r.bx r.bY (r.hx i) (r.hy i) = max (dst r.bx (r.hx i)) (dst r.bY (r.hy i)) := rfl
  rcases Nat.eq_zero_or_pos (stepsN r.bx r.bY (r.hx i) (r.hy i)) with h0 | h0
  · refine ⟨by show 1 ≤ r.ns i ∧ r.ns i ≤ 20; omega, rfl, ?_, hbd, fun j hj => by omega⟩
    rw [hle, h0]
    have e1 : r.hx i = r.bx := by rw [hst] at h0; unfold dst at h0; omega
    have e2 : r.hy i = r.bY := by rw [hst] at h0; unfold dst at h0; omega
    rw [e1, e2]
    rfl
  · have hg := fun j hj => pbK_get r.bx r.bY (r.hx i) (r.hy i) (stepsN r.bx r.bY (r.hx i) (r.hy i)) j h0 hj
    refine ⟨by show 1 ≤ r.ns i ∧ r.ns i ≤ 20; omega, rfl, ?_, hbd, fun j hj => ?_⟩
    · rw [hle, Nat.add_sub_cancel]
      show (pbK _ _ _ _ _ _).getD _ _ = _
      rw [hg _ (Nat.le_refl _), btw_last _ _ _ h0, btw_last _ _ _ h0]
    · have hj2 : j + 1 ≤ stepsN r.bx r.bY (r.hx i) (r.hy i) := by omega
      have a1 : (r.P i).getD (j + 1) (0, 0) = _ := hg (j + 1) hj2
      have a0 : (r.P i).getD j (0, 0) = _ := hg j (by omega)
      obtain ⟨t1, t2, t3⟩ := btw_step r.bx (r.hx i) j _ hj2 s1
      obtain ⟨u1, u2, u3⟩ := btw_step r.bY (r.hy i) j _ hj2 s2
      refine ⟨_, _, rfl, rfl, ?_⟩
      rw [a1, a0]
      refine ⟨t1, u1, ?_, t2, u2⟩
      rcases s3 with s3 | s3
      · exact .inl (t3 s3)
      · exact .inr (u3 s3)
end Go.Proofs.Ytcekdljjmfkacaa
