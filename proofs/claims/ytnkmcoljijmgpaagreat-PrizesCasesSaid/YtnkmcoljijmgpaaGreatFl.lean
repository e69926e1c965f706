import Derived.Test.YtnkmcoljijmgpaaGreatFk
import Derived.Test.YtnkmcoljijmgpaaGreatEi
set_option linter.unusedSimpArgs false
set_option linter.unusedVariables false
namespace Go.Proofs.YtnkmcoljijmgpaaGreat
open Go.RowKit Go.Shelf Go.Sort Go.Maps
attribute [local go_sem] Oper.semAt_some
theorem anyU_succ (p : Nat → Bool) (n : Nat) : anyU p (n + 1) = (anyU p n || p n) := by
  unfold anyU
  rw [List.range_succ, List.any_append]
  simp
theorem anyU_iff {p : Nat → Bool} {n : Nat} : anyU p n = true ↔ ∃ i, i < n ∧ p i = true := by
  unfold anyU
  rw [List.any_eq_true]
  constructor
  · rintro ⟨i, hi, e⟩
    exact ⟨i, List.mem_range.1 hi, e⟩
  · rintro ⟨i, hi, e⟩
    exact ⟨i, List.mem_range.2 hi, e⟩
theorem allU_succ (p : Nat → Bool) (n : Nat) : allU p (n + 1) = (allU p n && p n) := by
  unfold allU
  rw [anyU_succ]
  cases anyU (fun i => !p i) n <;> cases p n <;> rfl
/-- what the law of the cases says of one bird, V being its amounts and F whether it is first -/
structure CasF (NN : Nat) (V : Nat → Int) (F : Nat → Bool) (lo hi : Int) (S M : List Int) (b : Int) : Prop where
  ge : ∀ j, j < NN → lo ≤ V j ∧ V j ≤ hi
  low : anyU (fun j => V j == lo) NN = true
  high : anyU (fun j => V j == hi) NN = true
  all : allU F NN = inL S b
  some : (anyU F NN && !allU F NN) = inL M b
theorem cas_of {f : Fu} {ps : List Int} {b : Int} {S M : List Int} (h : FiOk f (caseL ps) S M) : CasF (2 ^ ps.length) (fun j => wonAt (wonL f (stOf ps j)) b) (fun j => inL (firstL f (stOf ps j)) b) (canLo f b (caseL ps)) (canHi f b (caseL ps)) S M b := by
  have hm : ∀ U, U ∈ caseL ps ↔ ∃ j, j < 2 ^ ps.length ∧ stOf ps j = U := fun U => by
    unfold caseL
    rw [List.mem_map]
    constructor
    · rintro ⟨j, hj, e⟩
      exact ⟨j, List.mem_range.1 hj, e⟩
    · rintro ⟨j, hj, e⟩
      exact ⟨j, List.mem_range.2 hj, e⟩
  obtain ⟨l1, U, hU, l2⟩ := can_lo f b ps
  obtain ⟨u1, V, hV, u2⟩ := can_hi f b ps
  have hall : allU (fun j => inL (firstL f (stOf ps j)) b) (2 ^ ps.length) = true ↔ cntI f (caseL ps) b = (caseL ps).length := by
    rw [cnt_all, allU_iff]
    constructor
    · intro h st hst
      obtain ⟨j, hj, rfl⟩ := (hm st).1 hst
      exact h j hj
    · intro h j hj
      exact h _ ((hm _).2 ⟨j, hj, rfl⟩)
  have hsome : anyU (fun j => inL (firstL f (stOf ps j)) b) (2 ^ ps.length) = true ↔ 0 < cntI f (caseL ps) b := by
    rw [cnt_some, anyU_iff]
    constructor
    · rintro ⟨j, hj, e⟩
      exact ⟨_, (hm _).2 ⟨j, hj, rfl⟩, e⟩
    · rintro ⟨st, hst, e⟩
      obtain ⟨j, hj, rfl⟩ := (hm st).1 hst
      exact ⟨j, hj, e⟩
  have hpos := case_pos ps
  refine ⟨fun j hj => ⟨l1 _ ((hm _).2 ⟨j, hj, rfl⟩), u1 _ ((hm _).2 ⟨j, hj, rfl⟩)⟩, ?_, ?_, ?_, ?_⟩
  · obtain ⟨j, hj, rfl⟩ := (hm U).1 hU
    exact anyU_iff.2 ⟨j, hj, by simpa using l2.symm⟩
  · obtain ⟨j, hj, rfl⟩ := (hm V).1 hV
    exact anyU_iff.2 ⟨j, hj, by simpa using u2.symm⟩
  · rw [Bool.eq_iff_iff, hall, inL_iff, h.sure]
    omega
  · rw [Bool.eq_iff_iff, inL_iff, h.maybe, Bool.and_eq_true, hsome, Bool.not_eq_true', ← Bool.not_eq_true, hall]
theorem q_has {r : Ra} {p b : Int} (h : qE r p [b] = 0) : hasB (runners r p) b = true := by
  obtain ⟨h1, h2⟩ := qE_parts h
  unfold qE at h
  rw [if_pos h1, if_pos h2] at h
  cases hh : hasB (runners r p) b
  · have e : allU (fun i => hasB (runners r p) ([b].getD i 0)) [b].length = false := by
      show allU (fun i => hasB (runners r p) ([b].getD i 0)) 1 = false
      rw [allU_succ]
      have : hasB (runners r p) ([b].getD 0 0) = false := hh
      rw [this, Bool.and_false]
    rw [e] at h
    exact absurd h (by decide)
  · rfl
/-- one case: the race with the birds struck -/
theorem case_one {r o o1 : Ra} {p b : Int} {n : Nat} (hr : raceB r = true) (her : o.racers.map rcP = r.racers.map rcP) (hps : o.pools.map poP = r.pools.map poP) (hpr : o.protests = r.protests) (hq : qE r p [b] = 0)
    (h1 : o1.racers = o.racers.map (outS (stOf r.protests n))) (h2 : o1.pools = o.pools) (h3 : o1.protests = []) :
    qE o1 p [] = 0 ∧ ((prizesL (fuOf o1 p none 0)).any fun x => x.bird == b) = true ∧ (pzP (prizesL (fuOf o1 p none 0)) b).won = wonAt (wonL (fuOf r p none 0) (stOf r.protests n)) b ∧ orderL (fuOf o1 p none 0) [] = orderL (fuOf r p none 0) (stOf r.protests n) := by
  obtain ⟨hB, hQ, hW⟩ := case_all (p := p) hr her hps hpr h1 h2 (by rw [h3]; exact List.nil_sublist _)
  have hq0 : qE r p [] = 0 := by
    unfold qE
    rw [if_pos (qE_parts hq).1, if_pos (qE_parts hq).2]
    rfl
  obtain ⟨w1, w2⟩ := hW [] (stOf r.protests n) (fun b => by
    have : inL [] b = false := rfl
    rw [this, Bool.false_or])
  have hx : ∃ x ∈ (fuOf o1 p none 0).rs, x.bird = b := hasB_mem.1 (q_has ((hQ [b]).trans hq))
  obtain ⟨p1, p2, p3⟩ := pzP_fund (f := fuOf o1 p none 0) hx
  exact ⟨(hQ []).trans hq0, p1, by rw [p3, w1], w2⟩
theorem canOk {r : Ra} {p b : Int} (hq : qE r p [b] = 0) : canT r p b = (canLo (fuOf r p none 0) b (caseL r.protests), canHi (fuOf r p none 0) b (caseL r.protests), 0) := if_pos hq
end Go.Proofs.YtnkmcoljijmgpaaGreat
