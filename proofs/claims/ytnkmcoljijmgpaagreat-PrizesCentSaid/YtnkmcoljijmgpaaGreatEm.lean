import Derived.Test.YtnkmcoljijmgpaaGreatEk
import Derived.Test.YtnkmcoljijmgpaaGreatEa
set_option linter.unusedSimpArgs false
set_option linter.unusedVariables false
namespace Go.Proofs.YtnkmcoljijmgpaaGreat
open Go.RowKit Go.Shelf Go.Sort Go.Maps
attribute [local go_sem] Oper.semAt_some
/-- what the law asks of one pool -/
structure CenP (AL : List Pz) (NL : List Int) (stake T C L R : Int) : Prop where
  len : NL.length = AL.length
  le : AL.length ≤ 12
  bird : ∀ i, i < AL.length → NL.getD i 0 = (AL.getD i default).bird
  won : ∀ i, i < AL.length → 0 ≤ (AL.getD i default).won ∧ (AL.getD i default).won ≤ 1200001
  back : ∀ i, i < AL.length → 0 ≤ (AL.getD i default).back ∧ (AL.getD i default).back ≤ 1200001
  t : T = stake * AL.length
  c : 0 ≤ C ∧ C ≤ T
  tb : 0 ≤ T ∧ T ≤ 1200000
  sum : T = C + (AL.map Pz.won).sum + (AL.map Pz.back).sum
  l : L = T - C
  r : R = (AL.map Pz.back).sum
  rb : 0 ≤ R ∧ R ≤ 1200000
theorem cen_pool {r : Ra} (hr : raceB r = true) {k : Nat} (hk : k < r.pools.length) : CenP (prizesL (fuOf r k none 0)) (namedL r k) (r.pools.getD k default).stake (totI (fuOf r k none 0)) (kepI (fuOf r k none 0)) (lefI (fuOf r k none 0)) (resI (fuOf r k none 0) []) := by
  have hin := inB_pool hk
  have hB := fu_bounds hr hin none 0
  have hf := fu_facts hr hk none 0 []
  have hu : Uniq (fuOf r k none 0).rs := runners_uniq hr k
  have c1 := cent_won hf hu
  have c2 := cent_back hf
  have ht := hB.tot
  have hc := hB.kep
  have hpos := hf.pos
  have hle := hf.le
  refine ⟨?_, by rw [prizesL_len]; exact hB.many, fun i hi => ?_, fun i hi => ?_, fun i hi => ?_, ?_, hc, ht, ?_, rfl, c2.symm, ?_⟩
  · rw [prizesL_len]
    unfold namedL
    rw [List.length_map]
    rfl
  · rw [prizesL_len] at hi
    have hi' : i < (runners r k).length := hi
    have e1 : (prizesL (fuOf r k none 0)).getD i default = ⟨((runners r k).getD i default).bird, wonAt (wonL (fuOf r k none 0) []) ((runners r k).getD i default).bird, shareI (resI (fuOf r k none 0) []) (runners r k).length i⟩ := by
      unfold prizesL
      rw [List.getD_eq_getElem?_getD, List.getElem?_map, List.getElem?_range hi]
      rfl
    rw [e1]
    unfold namedL
    rw [List.getD_eq_getElem?_getD, List.getElem?_map, List.getElem?_eq_getElem hi', List.getD_eq_getElem?_getD, List.getElem?_eq_getElem hi']
    rfl
  · rw [prizesL_len] at hi
    have := (prizesL_bd hf i hi).1
    omega
  · rw [prizesL_len] at hi
    exact (prizesL_bd hf i hi).2
  · rw [prizesL_len]
    show (poolAt r k).stake * ((runners r k).length : Int) = _
    unfold poolAt
    rw [Int.toNat_natCast]
    rfl
  · rw [c1, c2]
    unfold resI lefI
    omega
  · have h5 := hf.bound
    unfold resI
    have h6 : lefI (fuOf r k none 0) ≤ 1200000 := by
      unfold lefI
      omega
    omega
/-- sums of the first ones -/
def sumT (l : List Int) (t : Nat) : Int := (l.take t).sum
theorem sumT_succ {α : Type} [Inhabited α] (f : α → Int) (l : List α) {t : Nat} (h : t < l.length) : sumT (l.map f) (t + 1) = sumT (l.map f) t + f (l.getD t default) := by
  unfold sumT
  rw [List.take_add_one, List.sum_append, List.getElem?_map, List.getElem?_eq_getElem h, List.getD_eq_getElem?_getD, List.getElem?_eq_getElem h]
  simp
theorem sumT_all {α : Type} (f : α → Int) (l : List α) : sumT (l.map f) l.length = (l.map f).sum := by
  unfold sumT
  rw [List.take_of_length_le (by rw [List.length_map]; exact Nat.le_refl _)]
theorem sumK_bd {F : Nat → Int} {n : Nat} (h : ∀ k, k < n → 0 ≤ F k ∧ F k ≤ 1200000) : ∀ k, k ≤ n → 0 ≤ sumK F k ∧ sumK F k ≤ 1200000 * k
  | 0, _ => by simp [sumK]
  | k + 1, hk => by
    have ih := sumK_bd h k (by omega)
    have h1 := h k (by omega)
    show 0 ≤ sumK F k + F k ∧ sumK F k + F k ≤ _
    rw [show ((k + 1 : Nat) : Int) = (k : Int) + 1 by omega]
    omega
/-- what the law asks of the purses -/
structure CenQ (QL : List Pu) (n : Nat) (TS PS : Int) : Prop where
  len : QL.length ≤ n
  asc : ∀ i, i + 1 < QL.length → (QL.getD i default).owner < (QL.getD (i + 1) default).owner
  st : ∀ i, i < QL.length → 0 ≤ (QL.getD i default).staked ∧ (QL.getD i default).staked ≤ 300000000
  pd : ∀ i, i < QL.length → 0 ≤ (QL.getD i default).paid ∧ (QL.getD i default).paid ≤ 300000000
  ts : (QL.map Pu.staked).sum = TS
  ps : (QL.map Pu.paid).sum = PS
theorem cen_purses {r : Ra} (hr : raceB r = true) : CenQ (pursesL r) r.racers.length (sumK (fun i => totI (fuOf r i none 0)) r.pools.length) (sumK (fun i => totI (fuOf r i none 0)) r.pools.length - sumK (fun i => kepI (fuOf r i none 0)) r.pools.length) := by
  obtain ⟨h1, h2, h3, h4⟩ := purses_cent (r := r) (fun k hk => fu_facts hr hk none 0 []) (fun k => runners_uniq hr k) (fun k x hx => (runners_sub hx).1)
  have hpb := (puTo_pb hr r.pools.length (Nat.le_refl _)).1
  have hpl := race_pools hr
  have hm : ∀ i, i < (pursesL r).length → (pursesL r).getD i default ∈ puTo r r.pools.length := fun i hi => by
    rw [List.getD_eq_getElem?_getD, List.getElem?_eq_getElem hi]
    exact (srtP_perm _).mem_iff.1 (List.getElem_mem hi)
  refine ⟨h1, fun i hi => ?_, fun i hi => ?_, fun i hi => ?_, h3, h4⟩
  · have := List.pairwise_iff_getElem.1 h2 i (i + 1) (by omega) hi (by omega)
    rw [List.getD_eq_getElem?_getD, List.getElem?_eq_getElem (by omega), List.getD_eq_getElem?_getD, List.getElem?_eq_getElem hi]
    exact this
  · have := hpb.st _ (hm i hi)
    omega
  · have := hpb.pd _ (hm i hi)
    omega
theorem naQ0 (r : Ra) (p : Int) (n : Nat) (w : World) (h : r.At w) (hn : (namedL r p).length = n) : Calls Tryz.prog 16 #[.agg r.v, .int .i64 p] w fun e w' => G w w' ∧ ∃ a c, e = .returned (.slice a n c) ∧ IntsAt w' a (namedL r p) := by
  refine (Named_any r p w h h.nr).mono ?_
  rintro e w' ⟨hG, v, rfl, ho⟩
  obtain ⟨a, c, rfl, hI⟩ := own_ints ho
  exact ⟨hG, a, c, by rw [hn], hI⟩
end Go.Proofs.YtnkmcoljijmgpaaGreat
