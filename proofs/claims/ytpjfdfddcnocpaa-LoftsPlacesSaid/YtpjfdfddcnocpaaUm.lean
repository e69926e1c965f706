import Derived.Test.YtpjfdfddcnocpaaUk
set_option linter.unusedSimpArgs false
set_option linter.unusedVariables false
namespace Go.Proofs.Ytpjfdfddcnocpaa
open Go.RowKit

/-- what the ways of n give to t, by some costs -/
def stepR (L : List Nat) (w : Nat → Nat) (n t : Nat) : Nat := (L.map fun c => if n + c = t then w n else 0).sum
def accR (L : List Nat) (w : Nat → Nat) (n t : Nat) : Nat := ((List.range n).map fun n' => stepR L w n' t).sum
theorem accR_succ (L : List Nat) (w : Nat → Nat) (n t : Nat) : accR L w (n + 1) t = accR L w n t + stepR L w n t := sumR_succ _ _
theorem stepR_take (L : List Nat) (w : Nat → Nat) (n t x : Nat) (hx : x < L.length) : stepR (L.take (x + 1)) w n t = stepR (L.take x) w n t + (if n + L.getD x 0 = t then w n else 0) := by
  unfold stepR
  rw [List.take_succ_eq_append_getElem hx, List.map_append, List.sum_append]
  simp [hx]
theorem sum_swap : ∀ (n : Nat) (L : List Nat) (g : Nat → Nat → Nat), ((List.range n).map fun t => (L.map (g t)).sum).sum = (L.map fun m => ((List.range n).map fun t => g t m).sum).sum := by
  intro n L g
  induction L with
  | nil => simp [sumR_zero]
  | cons m L ihL =>
    simp only [List.map_cons, List.sum_cons]
    rw [sumR_add, ihL]
theorem accR_all (L : List Nat) (w : Nat → Nat) (W t : Nat) (ht : t ≤ W) : accR L w (W + 1) t = (L.map fun c => if c ≤ t then w (t - c) else 0).sum := by
  unfold accR stepR
  rw [sum_swap (W + 1) L (fun n c => if n + c = t then w n else 0)]
  refine sum_congr L fun c _ => ?_
  by_cases hc : c ≤ t
  · rw [if_pos hc]
    rw [sumR_congr (g := fun n => if n = t - c then w n else 0) (W + 1) (fun n _ => by
      by_cases h : n + c = t
      · rw [if_pos h, if_pos (by omega)]
      · rw [if_neg h, if_neg (by omega)])]
    have h := sumR_pick w (t - c) (W + 1)
    rw [if_pos (by omega)] at h
    exact h
  · rw [if_neg hc]
    rw [sumR_congr (g := fun _ => 0) (W + 1) (fun n _ => if_neg (by omega)), sumR_zero]
/-- a round of the reference's Many -/
theorem wayR_round (cs : Nat → List Nat) (W k t : Nat) (ht : t ≤ W) : accR (cs k) (wayR cs W k) (W + 1) t = wayR cs W (k + 1) t := by
  rw [accR_all _ _ _ _ ht]
  show _ = if t ≤ W then _ else _
  rw [if_pos ht]
/-- bounds of what is added so far -/
theorem stepR_le (L : List Nat) (w : Nat → Nat) (n t B : Nat) (hw : ∀ m, w m ≤ B) : stepR L w n t ≤ L.length * B := by
  unfold stepR
  induction L with
  | nil => simp
  | cons c L ih =>
    rw [List.map_cons, List.sum_cons, List.length_cons, Nat.add_mul, Nat.one_mul]
    have : (if n + c = t then w n else 0) ≤ B := by
      split
      · exact hw n
      · exact Nat.zero_le _
    omega
theorem accR_le (L : List Nat) (w : Nat → Nat) (t B : Nat) (hw : ∀ m, w m ≤ B) : ∀ n, accR L w n t ≤ n * (L.length * B)
  | 0 => by simp [accR]
  | n + 1 => by
    have h1 := accR_le L w t B hw n
    have h2 := stepR_le L w n t B hw
    rw [accR_succ, Nat.add_mul]
    omega
end Go.Proofs.Ytpjfdfddcnocpaa
