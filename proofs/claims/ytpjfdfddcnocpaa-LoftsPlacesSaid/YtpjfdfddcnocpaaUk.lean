import Derived.Test.YtpjfdfddcnocpaaSb
import Derived.Test.YtpjfdfddcnocpaaMc
set_option linter.unusedSimpArgs false
set_option linter.unusedVariables false
namespace Go.Proofs.Ytpjfdfddcnocpaa
open Go.RowKit

/-- the ways of the reference: by the costs themselves, up to W wrong surveys -/
def wayR (cs : Nat → List Nat) (W : Nat) : Nat → Nat → Nat
  | 0 => fun t => if t = 0 then 1 else 0
  | k + 1 => fun t => if t ≤ W then ((cs k).map fun m => if m ≤ t then wayR cs W k (t - m) else 0).sum else 0
theorem wayR_eq (cs : Nat → List Nat) (W : Nat) : ∀ k t, wayR cs W k t = ways (W : Int) (fun j => (cs j).map fun m => ⟨0, 0, m⟩) k t
  | 0, t => rfl
  | k + 1, t => by
    unfold wayR ways pw
    have e : (((cs k).map fun m => (⟨0, 0, m⟩ : Sp)).map Sp.more) = cs k := by
      rw [List.map_map]
      exact List.map_id'' (fun _ => rfl) _
    rw [e]
    by_cases h : t ≤ W
    · rw [if_pos h, if_pos (by omega)]
      exact sum_congr _ fun m _ => by rw [wayR_eq cs W k]
    · rw [if_neg h, if_neg (by omega)]
/-- the reference's sum is the number of truths -/
theorem wayR_many {north wrong : Int} {cols lofts : Nat} {east : List Int} {svs : List Sv} (hw : 0 ≤ wrong ∧ wrong ≤ 3) (hl : 1 ≤ lofts) :
    ((List.range (wrong.toNat + 1)).map fun t => wayR (costsL north cols east svs) wrong.toNat lofts t).sum = manyV north wrong cols lofts east svs := by
  rw [manyV_eq hw hl]
  have h := ways_sum (wrong.toNat : Int) (fun j => (costsL north cols east svs j).map fun m => ⟨0, 0, m⟩) wrong.toNat rfl lofts wrong.toNat (Nat.le_refl _)
  rw [sumR_congr (wrong.toNat + 1) (fun t _ => wayR_eq (costsL north cols east svs) wrong.toNat lofts t), h]
  congr 1
  funext l
  rw [List.map_map]
  exact List.map_id'' (fun _ => rfl) _
/-- no way is greater than all choices -/
theorem wayR_le (cs : Nat → List Nat) (W B : Nat) (hB : ∀ j, (cs j).length ≤ B) : ∀ k t, wayR cs W k t ≤ B ^ k
  | 0, t => by
    unfold wayR
    split <;> simp
  | k + 1, t => by
    unfold wayR
    split
    · have key : ∀ L : List Nat, (L.map fun m => if m ≤ t then wayR cs W k (t - m) else 0).sum ≤ L.length * B ^ k := by
        intro L
        induction L with
        | nil => simp
        | cons m L ih =>
          rw [List.map_cons, List.sum_cons, List.length_cons, Nat.add_mul, Nat.one_mul]
          have : (if m ≤ t then wayR cs W k (t - m) else 0) ≤ B ^ k := by
            split
            · exact wayR_le cs W B hB k _
            · exact Nat.zero_le _
          omega
      refine Nat.le_trans (key _) ?_
      rw [Nat.pow_succ, Nat.mul_comm]
      exact Nat.mul_le_mul_left _ (hB k)
    · exact Nat.zero_le _
end Go.Proofs.Ytpjfdfddcnocpaa
