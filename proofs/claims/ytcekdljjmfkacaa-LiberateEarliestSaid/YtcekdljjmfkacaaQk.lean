import Derived.Test.YtcekdljjmfkacaaQj
set_option linter.unusedSimpArgs false
set_option linter.unusedVariables false
namespace Go.Proofs.Ytcekdljjmfkacaa
open Go.RowKit Go.Shelf
theorem rnd0_zero : rnd 0 0 = 0 := by decide +kernel
theorem sqI_self (north : Int) (east : List Int) (a b : Int) : sqI north east a b a b = 0 := by
  simp [sqI]
/-- the reference and the program count the same latest minute -/
theorem hiR_eq {r : Rl} (h : r.Nums) {j : Nat} (hj : j < r.n) : hiR r j = r.st j (r.ns j - 1) 3 := by
  have hns := Rl.ns_le h hj
  have hl : lenS r.north r.east (r.P j) (r.ns j - 1) = 0 := by
    unfold lenS
    rw [show min (r.ns j - 1 + 1) ((r.P j).length - 1) = r.ns j - 1 by show min (r.ns j - 1 + 1) (r.ns j - 1) = _; omega, sqI_self]
    exact rnd0_zero
  simp only [Rl.st, if_pos (show r.ns j - 1 < r.ns j by omega)]
  unfold hiR hiT
  rw [hl]
  rfl
theorem anyU_or (p q : Nat → Bool) (n : Nat) : anyU (fun j => p j || q j) n = (anyU p n || anyU q n) := by
  unfold anyU
  induction n with
  | zero => rfl
  | succ n ih =>
    rw [List.range_succ]
    simp only [List.any_append, List.any_cons, List.any_nil, Bool.or_false] at ih ⊢
    rw [ih]
    cases p n <;> cases q n <;> cases (List.range n).any p <;> cases (List.range n).any q <;> rfl
theorem anyU_congr {p q : Nat → Bool} {n : Nat} (h : ∀ j, j < n → p j = q j) : anyU p n = anyU q n := by
  unfold anyU
  rw [Bool.eq_iff_iff, List.any_eq_true, List.any_eq_true]
  exact ⟨fun ⟨x, hx, hp⟩ => ⟨x, hx, by rw [← h x (List.mem_range.1 hx)]; exact hp⟩, fun ⟨x, hx, hp⟩ => ⟨x, hx, by rw [h x (List.mem_range.1 hx)]; exact hp⟩⟩
/-- the convoy may be set free just if it is light at the end and no home is blocked -/
theorem flyB_eq {r : Rl} (h : r.Nums) (m : Nat) : flyB r m = (lightB r m && !anyU (fun j => (r.blk m j).isSome) r.n) := by
  unfold flyB lightB
  rw [← Bool.not_or, ← anyU_or]
  congr 1
  refine anyU_congr fun j hj => ?_
  unfold fly1
  rw [hiR_eq h hj, Bool.not_and, Bool.not_not]
  rfl
/-- Blocks is empty just if no home is blocked -/
theorem bks_len0 (l : Nat → Option (Nat × Nat)) (n : Nat) : (decide ((bks l n).length = 0)) = !anyU (fun j => (l j).isSome) n := by
  induction n with
  | zero => rfl
  | succ n ih =>
    have e : anyU (fun j => (l j).isSome) (n + 1) = (anyU (fun j => (l j).isSome) n || (l n).isSome) := by
      unfold anyU
      rw [List.range_succ]
      simp
    rw [e]
    cases h : l n with
    | none => rw [bks_none h, ih]; simp
    | some p => rw [bks_some h]; simp
/-- Blocks names a home just if it is blocked -/
theorem bks_any (l : Nat → Option (Nat × Nat)) (n h : Nat) : (bks l n).any (fun b => b.1 == h) = (decide (h < n) && (l h).isSome) := by
  induction n with
  | zero => simp [bks]
  | succ n ih =>
    cases hl : l n with
    | none =>
      rw [bks_none hl, ih]
      rcases Nat.lt_trichotomy h n with c | c | c
      · simp [c, Nat.lt_succ_of_lt c]
      · subst c; simp [hl]
      · simp [show ¬ h < n by omega, show ¬ h < n + 1 by omega]
    | some p =>
      rw [bks_some hl, List.any_append, ih]
      rcases Nat.lt_trichotomy h n with c | c | c
      · simp [c, Nat.lt_succ_of_lt c, show ¬ n = h by omega]
      · subst c; simp [hl]
      · simp [show ¬ h < n by omega, show ¬ h < n + 1 by omega, show ¬ n = h by omega]
end Go.Proofs.Ytcekdljjmfkacaa
