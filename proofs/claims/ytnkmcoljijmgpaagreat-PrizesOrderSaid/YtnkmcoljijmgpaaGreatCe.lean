import Derived.Test.YtnkmcoljijmgpaaGreatCd
set_option linter.unusedSimpArgs false
set_option linter.unusedVariables false
namespace Go.Proofs.YtnkmcoljijmgpaaGreat
open Go.RowKit Go.Shelf Go.Sort Go.Maps
attribute [local go_sem] Oper.semAt_some
/-- a racer without the pools -/
def rcQ (x : Rc) : Int × Int × Int × Int := (x.bird, x.owner, x.rank, x.day)
theorem K_of_Q {l l' : List Rc} (h : l.map rcQ = l'.map rcQ) : l.map rcK = l'.map rcK := by
  have a : ∀ l : List Rc, l.map rcK = (l.map rcQ).map (fun q => (q.1, q.2.2.1, q.2.2.2)) := fun l => by
    rw [List.map_map]
    rfl
  rw [a, a, h]
theorem getQ {l l' : List Rc} (h : l.map rcQ = l'.map rcQ) (i : Nat) : rcQ (l.getD i default) = rcQ (l'.getD i default) := by
  have e := congrArg (fun m => m[i]?) h
  simp only [List.getElem?_map] at e
  rw [List.getD_eq_getElem?_getD, List.getD_eq_getElem?_getD]
  cases h1 : l[i]? <;> cases h2 : l'[i]? <;> rw [h1, h2] at e <;> simp at e ⊢
  exact e
/-- the race with one pool alone, and the birds that are nominated for it -/
def aloneR (r : Ra) (p : Int) (va pb : Option Addr) (vc : Nat) (L : List Rc) : Ra := ⟨va, vc, L, pb, 1, [poolAt r p], none, 0, []⟩
theorem racer_parts {r : Ra} (h : raceB r = true) {x : Rc} (hx : x ∈ r.racers) : racerB r.pools.length x = true := by
  have h1 := race_parts h
  unfold racersB at h1
  simp only [Bool.and_eq_true] at h1
  obtain ⟨i, hi, rfl⟩ := List.mem_iff_getElem.1 hx
  have h2 := allU_iff.1 h1.2 i hi
  rw [List.getD_eq_getElem?_getD, List.getElem?_eq_getElem hi] at h2
  simp only [Bool.and_eq_true] at h2
  exact h2.2
theorem alone_race {r : Ra} {p : Int} {L : List Rc} (hr : raceB r = true) (h0 : 0 ≤ p) (hp : p < r.pools.length) (hL : L.map rcQ = (r.racers.filter fun x => inL x.pools p).map rcQ) (hz : ∀ y ∈ L, y.pools = [0]) (va pb : Option Addr) (vc : Nat) :
    raceB (aloneR r p va pb vc L) = true ∧ KEq (fuOf r p none 0) (fuOf (aloneR r p va pb vc L) 0 none 0) ∧ L.length ≤ 12 := by
  have hin : isInB p 0 ((r.pools.length : Int) - 1) = true := by
    unfold isInB
    simp only [Bool.and_eq_true, decide_eq_true_eq]
    omega
  have hpo := (pool_of hr hin).2
  have hlen : L.length ≤ 12 := by
    have e := congrArg List.length hL
    simp only [List.length_map] at e
    rw [e]
    exact Nat.le_trans (List.length_filter_le _ _) (uniq_of (race_parts hr)).1
  have hu : Uniq (r.racers.filter fun x => inL x.pools p) := uniq_filter (uniq_of (race_parts hr)).2 _
  have huL : Uniq L := by
    have a : ∀ l : List Rc, Uniq l ↔ (l.map rcQ).Pairwise fun q q' => q.1 ≠ q'.1 := fun l => by
      rw [List.pairwise_map]
      rfl
    rw [a, hL, ← a]
    exact hu
  refine ⟨?_, ⟨rfl, ?_⟩, hlen⟩
  · refine race_yes hlen (by show 1 ≤ 6; decide) (by show 0 ≤ 4; decide) (fun k hk => ?_) (fun k hk => ?_) (fun k hk => ?_)
    · have hk' : k < L.length := hk
      have eq := getQ hL k
      have hkF : k < (r.racers.filter fun x => inL x.pools p).length := by
        have e := congrArg List.length hL
        simp only [List.length_map] at e
        omega
      have hxm : (r.racers.filter fun x => inL x.pools p).getD k default ∈ r.racers := by
        rw [List.getD_eq_getElem?_getD, List.getElem?_eq_getElem hkF]
        exact (List.mem_filter.1 (List.getElem_mem hkF)).1
      have hrb := racer_parts hr hxm
      have hym : L.getD k default ∈ L := by
        rw [List.getD_eq_getElem?_getD, List.getElem?_eq_getElem hk']
        exact List.getElem_mem hk'
      have hyz := hz _ hym
      refine ⟨?_, ?_⟩
      · show racerB 1 (L.getD k default) = true
        generalize L.getD k default = y at *
        generalize (r.racers.filter fun x => inL x.pools p).getD k default = x at *
        unfold rcQ at eq
        simp only [Prod.mk.injEq] at eq
        obtain ⟨e1, e2, e3, e4⟩ := eq
        unfold racerB at hrb ⊢
        simp only [Bool.and_eq_true] at hrb
        rw [e1, e2, hyz, hrb.1, hrb.2.1]
        have hrk : rankB y = true := by
          unfold rankB
          rw [e3, e4]
          exact hrb.2.2.1
        rw [hrk]
        rfl
      · refine idxR_some hk' rfl (fun j hj e => ?_)
        have hj' : j < L.length := Nat.lt_trans hj hk'
        have h5 := List.pairwise_iff_getElem.1 huL j k hj' hk' hj
        have d1 : (aloneR r p va pb vc L).racers.getD j default = L[j] := by
          show L.getD j default = _
          rw [List.getD_eq_getElem?_getD, List.getElem?_eq_getElem hj']
          rfl
        have d2 : (aloneR r p va pb vc L).racers.getD k default = L[k] := by
          show L.getD k default = _
          rw [List.getD_eq_getElem?_getD, List.getElem?_eq_getElem hk']
          rfl
        rw [d1, d2] at e
        exact h5 e
    · have hk' : k < 1 := hk
      obtain rfl : k = 0 := by omega
      exact hpo
    · have hk' : k < 0 := hk
      omega
  · show (runners r p).map rcK = (runners (aloneR r p va pb vc L) 0).map rcK
    unfold runners
    refine srtK ?_
    have e : (aloneR r p va pb vc L).racers.filter (fun x => inL x.pools 0) = L := List.filter_eq_self.2 (fun y hy => by
      have := hz y hy
      show inL y.pools 0 = true
      rw [this]
      rfl)
    rw [e]
    exact (K_of_Q hL).symm
end Go.Proofs.YtnkmcoljijmgpaaGreat
