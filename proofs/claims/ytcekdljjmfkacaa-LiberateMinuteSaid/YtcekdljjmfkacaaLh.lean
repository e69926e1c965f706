import Derived.Test.YtcekdljjmfkacaaLc
set_option linter.unusedSimpArgs false
set_option linter.unusedVariables false
namespace Go.Proofs.Ytcekdljjmfkacaa
open Go.RowKit

theorem btw_le {f t k n M : Nat} (hf : f ≤ M) (ht : t ≤ M) (hk : k ≤ n) (hn : 1 ≤ n) : btw f t k n ≤ M := by
  unfold btw
  have h1 : f * (n - k) ≤ M * (n - k) := Nat.mul_le_mul_right _ hf
  have h2 : t * k ≤ M * k := Nat.mul_le_mul_right _ ht
  have h3 : M * (n - k) + M * k = M * n := by rw [← Nat.mul_add]; congr 1; omega
  have h4 : 2 * (f * (n - k) + t * k) + n < (M + 1) * (2 * n) := by
    have : (M + 1) * (2 * n) = 2 * (M * n) + 2 * n := by rw [Nat.add_mul, Nat.one_mul, ← Nat.mul_assoc, Nat.mul_comm M 2, Nat.mul_assoc]
    omega
  have := (Nat.div_lt_iff_lt_mul (by omega : 0 < 2 * n)).2 h4
  omega
/-- the places of a way are places of the map -/
theorem pbK_mem {fx fy tx ty n k : Nat} {cols rows : Nat} (hn : k ≤ n) (h1 : fx < cols) (h2 : fy < rows) (h3 : tx < cols) (h4 : ty < rows) : ∀ p ∈ pbK fx fy tx ty n k, p.1 < cols ∧ p.2 < rows := by
  intro p hp
  unfold pbK at hp
  rcases List.mem_cons.1 hp with rfl | hp
  · exact ⟨h1, h2⟩
  · obtain ⟨j, hj, rfl⟩ := List.mem_map.1 hp
    have hjk : j < k := by simpa using hj
    have a := btw_le (f := fx) (t := tx) (k := j + 1) (n := n) (M := cols - 1) (by omega) (by omega) (by omega) (by omega)
    have b := btw_le (f := fy) (t := ty) (k := j + 1) (n := n) (M := rows - 1) (by omega) (by omega) (by omega) (by omega)
    exact ⟨by simp only; omega, by simp only; omega⟩
/-- the step from the i-th place of a way to the next one -/
def lenS (north : Int) (east : List Int) (P : List (Nat × Nat)) (i : Nat) : Nat :=
  rnd 0 (sqI north east (P.getD i (0, 0)).1 (P.getD i (0, 0)).2 (P.getD (min (i + 1) (P.length - 1)) (0, 0)).1 (P.getD (min (i + 1) (P.length - 1)) (0, 0)).2).toNat
def farL (north : Int) (east : List Int) (P : List (Nat × Nat)) (k : Nat) : Nat := ((List.range k).map (lenS north east P)).sum
theorem farL_succ (north : Int) (east : List Int) (P : List (Nat × Nat)) (k : Nat) : farL north east P (k + 1) = farL north east P k + lenS north east P k := by
  unfold farL
  rw [List.range_succ, List.map_append, List.sum_append]
  simp
/-- when birds are at the i-th place, first and last -/
def loT (north : Int) (east : List Int) (P : List (Nat × Nat)) (sh i : Nat) : Nat := farL north east P i / sh
def hiT (north : Int) (east : List Int) (P : List (Nat × Nat)) (sl i : Nat) : Nat := (farL north east P i + lenS north east P i + sl - 1) / sl
def stV (north : Int) (east : List Int) (P : List (Nat × Nat)) (sl sh k : Nat) : List Value := (List.range k).flatMap fun i => [.int .i64 ((P.getD i (0, 0)).1 : Nat), .int .i64 ((P.getD i (0, 0)).2 : Nat), .int .i64 (loT north east P sh i : Nat), .int .i64 (hiT north east P sl i : Nat)]
theorem stV_succ (north : Int) (east : List Int) (P : List (Nat × Nat)) (sl sh k : Nat) : stV north east P sl sh (k + 1) = stV north east P sl sh k ++ [.int .i64 ((P.getD k (0, 0)).1 : Nat), .int .i64 ((P.getD k (0, 0)).2 : Nat), .int .i64 (loT north east P sh k : Nat), .int .i64 (hiT north east P sl k : Nat)] := by
  unfold stV
  rw [List.range_succ, List.flatMap_append]
  simp
theorem info77 : (Try.prog.info? 88).map (fun i => (i.zero, i.size, i.bytes)) = some (some (.agg #[.int .i64 0, .int .i64 0, .int .i64 0, .int .i64 0]), 4, 32) := by kernel_rfl
theorem rnd0_le (n : Nat) (h : n ≤ 2592000000000000) : rnd 0 n ≤ 100000000 := by
  have := rt_le n 80000000 (by omega) (by omega)
  unfold rnd
  simp
  omega
end Go.Proofs.Ytcekdljjmfkacaa
