import Derived.Test.YtnkmcoljijmgpaaGreatBq
set_option linter.unusedSimpArgs false
set_option linter.unusedVariables false
namespace Go.Proofs.YtnkmcoljijmgpaaGreat
open Go.RowKit Go.Shelf Go.Maps
attribute [local go_sem] Oper.semAt_some
def addP (x : Pu) (s p : Int) : Pu := ⟨x.owner, x.staked + s, x.paid + p⟩
/-- the purses behind the first k racers -/
def pu0 (l : List Rc) : Nat → List Pu
  | 0 => []
  | k + 1 => putP (pu0 l k) ⟨(l.getD k default).owner, 0, 0⟩
/-- .. behind the first j prizes of a pool -/
def puIn (f : Fu) (acc : List Pu) : Nat → List Pu
  | 0 => acc
  | j + 1 => putP (puIn f acc j) (addP (atP (puIn f acc j) (f.rs.getD j default).owner) f.po.stake (((prizesL f).getD j default).won + ((prizesL f).getD j default).back))
/-- .. behind the first k pools -/
def puTo (r : Ra) : Nat → List Pu
  | 0 => pu0 r.racers r.racers.length
  | k + 1 => puIn (fuOf r k none 0) (puTo r k) (runners r k).length
def pursesL (r : Ra) : List Pu := srtP (puTo r r.pools.length)
/-- bounds -/
structure PB (c : Nat) (ps : List Pu) : Prop where
  uniq : UniqP ps
  own : ∀ p ∈ ps, 0 ≤ p.owner ∧ p.owner ≤ 99
  st : ∀ p ∈ ps, 0 ≤ p.staked ∧ p.staked ≤ 100000 * c
  pd : ∀ p ∈ ps, 0 ≤ p.paid ∧ p.paid ≤ 3000000 * c
theorem putP_len (ps : List Pu) (q : Pu) : (putP ps q).length ≤ ps.length + 1 := by
  unfold putP
  split
  · rw [List.length_map]; omega
  · rw [List.length_append]; simp
theorem PB.put {c c' : Nat} {ps : List Pu} (h : PB c ps) (hc : c ≤ c') {q : Pu} (h1 : 0 ≤ q.owner ∧ q.owner ≤ 99) (h2 : 0 ≤ q.staked ∧ q.staked ≤ 100000 * c') (h3 : 0 ≤ q.paid ∧ q.paid ≤ 3000000 * c') : PB c' (putP ps q) where
  uniq := putP_uniq h.uniq q
  own p hp := by
    rcases putP_mem hp with rfl | ⟨hp, _⟩
    · exact h1
    · exact h.own p hp
  st p hp := by
    rcases putP_mem hp with rfl | ⟨hp, _⟩
    · exact h2
    · have := h.st p hp; omega
  pd p hp := by
    rcases putP_mem hp with rfl | ⟨hp, _⟩
    · exact h3
    · have := h.pd p hp; omega
theorem PB.at {c : Nat} {ps : List Pu} (h : PB c ps) (x : Int) : (0 ≤ (atP ps x).owner ∧ (atP ps x).owner ≤ 99) ∧ (0 ≤ (atP ps x).staked ∧ (atP ps x).staked ≤ 100000 * c) ∧ (0 ≤ (atP ps x).paid ∧ (atP ps x).paid ≤ 3000000 * c) := by
  unfold atP
  cases hf : ps.find? fun p => p.owner == x with
  | none => simp; omega
  | some q =>
    have hm := List.mem_of_find?_eq_some hf
    exact ⟨h.own q hm, h.st q hm, h.pd q hm⟩
theorem pu0_pb {l : List Rc} (h : ∀ x ∈ l, 0 ≤ x.owner ∧ x.owner ≤ 99) : ∀ k, k ≤ l.length → PB 0 (pu0 l k) ∧ (pu0 l k).length ≤ k
  | 0, _ => ⟨⟨List.Pairwise.nil, fun p hp => by simp [pu0] at hp, fun p hp => by simp [pu0] at hp, fun p hp => by simp [pu0] at hp⟩, Nat.le_refl _⟩
  | k + 1, hk => by
    obtain ⟨ih, il⟩ := pu0_pb h k (by omega)
    refine ⟨ih.put (Nat.le_refl _) (h _ ?_) ⟨Int.le_refl _, by show (0 : Int) ≤ _; omega⟩ ⟨Int.le_refl _, by show (0 : Int) ≤ _; omega⟩, Nat.le_trans (putP_len _ _) (by omega)⟩
    rw [List.getD_eq_getElem?_getD, List.getElem?_eq_getElem (by omega)]
    exact List.getElem_mem _
theorem share_bd (A : Int) (n i : Nat) (hA : 0 ≤ A) (hn : 1 ≤ n) : shareI A n i ≤ A + 1 := by
  unfold shareI
  have : A / (n : Int) ≤ A := Int.ediv_le_self _ hA
  split <;> omega
theorem prizesL_bd {f : Fu} (h : WonFacts f []) (j : Nat) (hj : j < f.rs.length) : (0 ≤ ((prizesL f).getD j default).won ∧ ((prizesL f).getD j default).won ≤ 1200000) ∧ (0 ≤ ((prizesL f).getD j default).back ∧ ((prizesL f).getD j default).back ≤ 1200001) := by
  have e : (prizesL f).getD j default = ⟨(f.rs.getD j default).bird, wonAt (wonL f []) (f.rs.getD j default).bird, shareI (resI f []) f.rs.length j⟩ := by
    have hl : j < (prizesL f).length := by rw [prizesL_len]; exact hj
    rw [List.getD_eq_getElem?_getD, List.getElem?_eq_getElem hl]
    simp [prizesL]
  rw [e]
  have h1 := wonAt_nonneg h.nonneg (f.rs.getD j default).bird
  have h2 := wonAt_le h.nonneg (f.rs.getD j default).bird
  have h3 := h.le
  have h4 := h.bound
  have h5 := h.pos
  have hr : 0 ≤ resI f [] ∧ resI f [] ≤ 1200000 := by unfold resI; omega
  have h6 := share_nonneg (resI f []) f.rs.length j hr.1
  have h7 := share_bd (resI f []) f.rs.length j hr.1 (by omega)
  dsimp only
  omega
theorem puIn_pb {f : Fu} {c : Nat} {acc : List Pu} (h : PB c acc) (hw : WonFacts f []) (hF : FuB f) : ∀ j, j ≤ f.rs.length → PB (c + j) (puIn f acc j) ∧ (puIn f acc j).length ≤ acc.length + j
  | 0, _ => ⟨h, Nat.le_refl _⟩
  | j + 1, hj => by
    obtain ⟨ih, il⟩ := puIn_pb h hw hF j (by omega)
    obtain ⟨a1, a2, a3⟩ := ih.at (f.rs.getD j default).owner
    obtain ⟨b1, b2⟩ := prizesL_bd hw j (by omega)
    have hs := hF.stake
    refine ⟨ih.put (by omega) a1 ?_ ?_, Nat.le_trans (putP_len _ _) (by omega)⟩
    · show 0 ≤ (atP _ _).staked + f.po.stake ∧ (atP _ _).staked + f.po.stake ≤ _
      omega
    · show 0 ≤ (atP _ _).paid + (_ + _) ∧ (atP _ _).paid + (_ + _) ≤ _
      omega
theorem inB_pool {r : Ra} {k : Nat} (h : k < r.pools.length) : isInB (k : Int) 0 ((r.pools.length : Int) - 1) = true := by
  unfold isInB
  simp only [Bool.and_eq_true, decide_eq_true_eq]
  omega
theorem fu_facts {r : Ra} (hr : raceB r = true) {k : Nat} (hk : k < r.pools.length) (fa : Option Addr) (fc : Nat) (st : List Int) : WonFacts (fuOf r k fa fc) st :=
  wonFacts_any (fu_bounds hr (inB_pool hk) fa fc) (pool_of hr (inB_pool hk)).2 (runners_uniq hr k) (fun x hx => racers_bd hr x (runners_sub hx).1) st
theorem racers_own {r : Ra} (h : raceB r = true) : ∀ x ∈ r.racers, 0 ≤ x.owner ∧ x.owner ≤ 99 := by
  have h1 := race_parts h
  unfold racersB at h1
  simp only [Bool.and_eq_true] at h1
  intro x hx
  obtain ⟨i, hi, rfl⟩ := List.mem_iff_getElem.1 hx
  have h2 := allU_iff.1 h1.2 i hi
  rw [List.getD_eq_getElem?_getD, List.getElem?_eq_getElem hi] at h2
  simp only [Bool.and_eq_true] at h2
  have h3 := h2.2
  unfold racerB at h3
  simp only [Bool.and_eq_true] at h3
  have h4 := h3.2.1
  unfold isInB at h4
  simpa using h4
theorem puTo_pb {r : Ra} (hr : raceB r = true) : ∀ k, k ≤ r.pools.length → PB (12 * k) (puTo r k) ∧ (puTo r k).length ≤ 12 + 12 * k
  | 0, _ => by
    obtain ⟨a, b⟩ := pu0_pb (racers_own hr) r.racers.length (Nat.le_refl _)
    exact ⟨a, Nat.le_trans b (uniq_of (race_parts hr)).1⟩
  | k + 1, hk => by
    obtain ⟨ih, il⟩ := puTo_pb hr k (by omega)
    obtain ⟨a, b⟩ := puIn_pb ih (fu_facts hr (show k < r.pools.length by omega) none 0 []) (fu_bounds hr (inB_pool (by omega)) none 0) (runners r k).length (Nat.le_refl _)
    have hl := runners_le hr (k : Int)
    refine ⟨⟨a.uniq, a.own, fun p hp => ?_, fun p hp => ?_⟩, Nat.le_trans b (by omega)⟩
    · have := a.st p hp; omega
    · have := a.pd p hp; omega
theorem race_pools {r : Ra} (h : raceB r = true) : r.pools.length ≤ 6 := by
  unfold raceB at h
  simp only [Bool.and_eq_true, decide_eq_true_eq] at h
  exact h.1
end Go.Proofs.YtnkmcoljijmgpaaGreat
