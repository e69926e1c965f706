import Derived.Test.YtpjfdfddcnocpaaKd
set_option linter.unusedSimpArgs false
set_option linter.unusedVariables false
namespace Go.Proofs.Ytpjfdfddcnocpaa
open Go.RowKit

theorem sumR_succ (f : Nat → Nat) (k : Nat) : ((List.range (k + 1)).map f).sum = ((List.range k).map f).sum + f k := by
  simp [List.range_succ]
theorem sumR_le {f g : Nat → Nat} : ∀ k, (∀ j, j < k → f j ≤ g j) → ((List.range k).map f).sum ≤ ((List.range k).map g).sum
  | 0, _ => Nat.le_refl _
  | k + 1, h => by
    rw [sumR_succ, sumR_succ]
    have := sumR_le k (fun j hj => h j (by omega))
    have := h k (by omega)
    omega
theorem sumR_congr {f g : Nat → Nat} (k : Nat) (h : ∀ j, j < k → f j = g j) : ((List.range k).map f).sum = ((List.range k).map g).sum :=
  Nat.le_antisymm (sumR_le k fun j hj => Nat.le_of_eq (h j hj)) (sumR_le k fun j hj => Nat.le_of_eq (h j hj).symm)
theorem sumR_add (f g : Nat → Nat) : ∀ k, ((List.range k).map fun j => f j + g j).sum = ((List.range k).map f).sum + ((List.range k).map g).sum
  | 0 => rfl
  | k + 1 => by
    rw [sumR_succ, sumR_succ, sumR_succ, sumR_add f g k]
    omega
theorem sumR_zero : ∀ k, ((List.range k).map fun _ => 0).sum = 0
  | 0 => rfl
  | k + 1 => by rw [sumR_succ, sumR_zero k]
/-- one of the terms is 1, or none -/
theorem sumR_one (x : Int) : ∀ k, ((List.range k).map fun j : Nat => if x = (j : Int) then 1 else 0).sum ≤ 1 ∧ (0 ≤ x → x < k → ((List.range k).map fun j : Nat => if x = (j : Int) then 1 else 0).sum = 1) ∧ (x < 0 ∨ (k : Int) ≤ x → ((List.range k).map fun j : Nat => if x = (j : Int) then 1 else 0).sum = 0)
  | 0 => ⟨by simp, fun h1 h2 => by omega, fun _ => rfl⟩
  | k + 1 => by
    rw [sumR_succ]
    obtain ⟨h1, h2, h3⟩ := sumR_one x k
    by_cases e : x = k
    · rw [h3 (by omega), if_pos e]
      exact ⟨by omega, fun _ _ => rfl, fun h => by omega⟩
    · rw [if_neg e]
      exact ⟨h1, fun a b => h2 a (by omega), fun h => h3 (by omega)⟩

/-- each survey is wrong at its own loft alone -/
theorem count_lofts (north : Int) (east : List Int) (p : Nat → Nat × Nat) (k : Nat) : ∀ svs : List Sv, ((List.range k).map fun l => cost north east svs l (p l)).sum ≤ svs.length
  | [] => by
    have : (fun l => cost north east [] l (p l)) = fun _ => 0 := by funext l; simp [cost, wrongN]
    rw [this, sumR_zero]; exact Nat.zero_le _
  | s :: svs => by
    have ih := count_lofts north east p k svs
    have h : ∀ l, l < k → cost north east (s :: svs) l (p l) ≤ cost north east svs l (p l) + (if s.loft = (l : Int) then 1 else 0) := fun l _ => by
      unfold cost wrongN
      rw [List.filter_cons]
      split
      · rename_i hb
        rw [if_pos (by simp [badB] at hb; exact hb.1)]
        simp
      · omega
    have h1 := sumR_le k h
    rw [sumR_add] at h1
    have := (sumR_one s.loft k).1
    rw [List.length_cons]
    omega
/-- .. and counted there -/
theorem count_lofts_ge (north : Int) (east : List Int) (p : Nat → Nat × Nat) (k : Nat) : ∀ svs : List Sv, (∀ s ∈ svs, 0 ≤ s.loft ∧ s.loft < k) →
    (svs.filter fun s => !holdsB north east s (p s.loft.toNat).1 (p s.loft.toNat).2).length ≤ ((List.range k).map fun l => cost north east svs l (p l)).sum
  | [], _ => by simp
  | s :: svs, hs => by
    have ih := count_lofts_ge north east p k svs (fun t ht => hs t (List.mem_cons_of_mem _ ht))
    obtain ⟨h0, h1⟩ := hs s List.mem_cons_self
    rw [List.filter_cons]
    cases hb : !holdsB north east s (p s.loft.toNat).1 (p s.loft.toNat).2
    · refine Nat.le_trans ih (sumR_le k fun l _ => ?_)
      unfold cost wrongN
      rw [List.filter_cons]
      split
      · simp
      · exact Nat.le_refl _
    · have h : ∀ l, l < k → cost north east svs l (p l) + (if s.loft = (l : Int) then 1 else 0) ≤ cost north east (s :: svs) l (p l) := fun l _ => by
        unfold cost wrongN
        rw [List.filter_cons]
        by_cases e : s.loft = (l : Int)
        · have el : s.loft.toNat = l := by omega
          rw [el] at hb
          rw [if_pos e, if_pos (by simp only [badB, hb, e, Bool.and_true]; simp)]
          simp
        · rw [if_neg e]
          split
          · simp
          · omega
      have h2 := sumR_le k h
      rw [sumR_add] at h2
      have := (sumR_one s.loft k).2.1 h0 h1
      simp only [if_true, List.length_cons]
      omega

section
variable (north : Int) (cols : Nat) (east : List Int) (svs : List Sv)
theorem low_spec (l : Nat) (hc : 1 ≤ cols) (hr : 1 ≤ east.length) : (∀ p ∈ allP cols east.length, lowC north east svs l (allP cols east.length) ≤ cost north east svs l p) ∧ ∃ p ∈ allP cols east.length, lowC north east svs l (allP cols east.length) = cost north east svs l p := by
  unfold lowC minC
  refine ⟨fun p hp => (foldl_min_le _ _).2 _ (List.mem_map.2 ⟨p, hp, rfl⟩), ?_⟩
  rcases foldl_min_mem ((allP cols east.length).map (cost north east svs l)) svs.length with h | h
  · refine ⟨(0, 0), allP_first hc hr, ?_⟩
    have h1 := (foldl_min_le ((allP cols east.length).map (cost north east svs l)) svs.length).2 _ (List.mem_map.2 ⟨(0, 0), allP_first hc hr, rfl⟩)
    have h2 : cost north east svs l (0, 0) ≤ svs.length := by unfold cost; exact wrongN_le _ _ _ _ _ _
    omega
  · obtain ⟨p, hp, e⟩ := List.mem_map.1 h
    exact ⟨p, hp, e.symm⟩
/-- a place for each loft, at which as few of its surveys are wrong as can be -/
theorem best_of (hc : 1 ≤ cols) (hr : 1 ≤ east.length) : ∃ p : Nat → Nat × Nat, ∀ l, p l ∈ allP cols east.length ∧ lowC north east svs l (allP cols east.length) = cost north east svs l (p l) :=
  ⟨fun l => Classical.choose (low_spec north cols east svs l hc hr).2, fun l => Classical.choose_spec (low_spec north cols east svs l hc hr).2⟩
theorem fewSum_len (lofts : Nat) (hc : 1 ≤ cols) (hr : 1 ≤ east.length) : fewSum north cols east svs lofts ≤ svs.length := by
  obtain ⟨p, hp⟩ := best_of north cols east svs hc hr
  refine Nat.le_trans (Nat.le_of_eq ?_) (count_lofts north east p lofts svs)
  unfold fewSum
  exact sumR_congr lofts fun l _ => (hp l).2
end

/-- without one survey -/
theorem cost_erase (north : Int) (east : List Int) (svs : List Sv) (i : Nat) (hi : i < svs.length) (l : Nat) (p : Nat × Nat) :
    cost north east svs l p = cost north east (svs.eraseIdx i) l p + (if badB north east l p.1 p.2 svs[i] then 1 else 0) := by
  unfold cost wrongN
  have e : svs = svs.take i ++ svs[i] :: svs.drop (i + 1) := by
    conv => lhs; rw [← List.take_append_drop i svs, List.drop_eq_getElem_cons hi]
  have e2 : svs.eraseIdx i = svs.take i ++ svs.drop (i + 1) := List.eraseIdx_eq_take_drop_succ _ _
  rw [e2]
  conv => lhs; rw [e]
  rw [List.filter_append, List.filter_append, List.filter_cons]
  split <;> simp <;> omega
theorem few_erase (north : Int) (cols lofts : Nat) (east : List Int) (svs : List Sv) (i : Nat) (hi : i < svs.length) (hc : 1 ≤ cols) (hr : 1 ≤ east.length) :
    fewSum north cols east (svs.eraseIdx i) lofts ≤ fewSum north cols east svs lofts ∧ fewSum north cols east svs lofts ≤ fewSum north cols east (svs.eraseIdx i) lofts + 1 := by
  have key : ∀ l : Nat, lowC north east (svs.eraseIdx i) l (allP cols east.length) ≤ lowC north east svs l (allP cols east.length) ∧ lowC north east svs l (allP cols east.length) ≤ lowC north east (svs.eraseIdx i) l (allP cols east.length) + (if svs[i].loft = (l : Int) then 1 else 0) := fun l => by
    obtain ⟨h1, p, hp, e1⟩ := low_spec north cols east svs l hc hr
    obtain ⟨h2, q, hq, e2⟩ := low_spec north cols east (svs.eraseIdx i) l hc hr
    have c1 := cost_erase north east svs i hi l p
    have c2 := cost_erase north east svs i hi l q
    have g1 := h2 p hp
    have g2 := h1 q hq
    refine ⟨by omega, ?_⟩
    by_cases e : svs[i].loft = (l : Int)
    · rw [if_pos e]
      split at c2 <;> omega
    · have hb : badB north east l q.1 q.2 svs[i] = false := by simp [badB, e]
      rw [hb] at c2
      rw [if_neg e]
      simp at c2
      omega
  unfold fewSum
  refine ⟨sumR_le lofts fun l _ => (key l).1, ?_⟩
  have := sumR_le lofts fun l _ => (key l).2
  rw [sumR_add] at this
  have := (sumR_one svs[i].loft lofts).1
  omega
/-- a survey that no truth of its loft holds -/
def blamed (north : Int) (east : List Int) (rows : Nat → List Sp) (sp : Int) (s : Sv) : Bool := !(truthsOf rows [s.loft.toNat] sp).any fun f => holdsB north east s (f s.loft.toNat).1 (f s.loft.toNat).2
theorem truths_best {north : Int} {cols : Nat} {east : List Int} {svs : List Sv} {l : Nat} {sp : Int} (hsp : 0 ≤ sp) {p : Nat × Nat} (hp : p ∈ allP cols east.length) (he : lowC north east svs l (allP cols east.length) = cost north east svs l p) :
    ∃ f ∈ truthsOf (spotsOf north cols east svs) [l] sp, f l = p := by
  refine ⟨upd (fun _ => (0, 0)) l p, ?_, by simp [upd]⟩
  unfold truthsOf
  rw [names_one, settleL_cons]
  refine List.mem_flatMap.2 ⟨⟨p.1, p.2, cost north east svs l p - lowC north east svs l (allP cols east.length)⟩, List.mem_map.2 ⟨p, hp, rfl⟩, ?_⟩
  unfold stepL
  rw [if_pos (by rw [he]; simp; omega)]
  simp [settleL]
/-- no more surveys are blamed than may be wrong -/
theorem blamed_few {north wrong : Int} {cols lofts : Nat} {east : List Int} {svs : List Sv} (hc : 1 ≤ cols) (hr : 1 ≤ east.length) (hw : ¬ wrong < fewSum north cols east svs lofts) (hs : ∀ s ∈ svs, 0 ≤ s.loft ∧ s.loft < lofts) :
    ((svs.filter (blamed north east (spotsOf north cols east svs) (wrong - fewSum north cols east svs lofts))).length : Int) ≤ wrong := by
  obtain ⟨p, hp⟩ := best_of north cols east svs hc hr
  have h1 := count_lofts_ge north east p lofts svs hs
  have h2 : (svs.filter (blamed north east (spotsOf north cols east svs) (wrong - fewSum north cols east svs lofts))).length ≤ (svs.filter fun s => !holdsB north east s (p s.loft.toNat).1 (p s.loft.toNat).2).length := by
    rw [← List.countP_eq_length_filter, ← List.countP_eq_length_filter]
    refine List.countP_mono_left fun s _ hb => ?_
    obtain ⟨f, hf, e⟩ := truths_best (sp := wrong - fewSum north cols east svs lofts) (by omega) (hp s.loft.toNat).1 (hp s.loft.toNat).2
    unfold blamed at hb
    simp only [Bool.not_eq_true'] at hb ⊢
    have := List.any_eq_false.1 hb f hf
    rw [e] at this
    simpa using this
  have h3 : ((List.range lofts).map fun l => cost north east svs l (p l)).sum = fewSum north cols east svs lofts := by
    unfold fewSum
    exact sumR_congr lofts fun l _ => (hp l).2.symm
  omega
end Go.Proofs.Ytpjfdfddcnocpaa
