import Derived.Test.YtnkmcoljijmgpaaGreatAn
import Derived.Test.YtnkmcoljijmgpaaGreatAi
set_option linter.unusedSimpArgs false
set_option linter.unusedVariables false
namespace Go.Proofs.YtnkmcoljijmgpaaGreat
open Go.RowKit Go.Shelf Go.Sort
attribute [local go_sem] Oper.semAt_some
section
variable {α : Type} [Inhabited α]
theorem inner_eq (lt lt' : α → α → Bool) : ∀ (j : Nat) (d : Array α), j < d.size → (∀ t, t < j → lt d[j]! d[t]! = lt' d[j]! d[t]!) → insInner lt 0 j d = insInner lt' 0 j d
  | 0, d, _, _ => rfl
  | j + 1, d, hj, h => by
    have e := h j (by omega)
    unfold insInner
    rw [e]
    by_cases hc : (decide (j + 1 > 0) && lt' d[j + 1]! d[j]!) = true
    · rw [if_pos hc, if_pos hc]
      refine inner_eq lt lt' j _ (by rw [size_swp]; omega) (fun t ht => ?_)
      rw [swp_get d hj (by omega : j < d.size), swp_get d hj (by omega : j < d.size)]
      have e2 := h t (by omega)
      simp only [show ¬ j = j + 1 by omega, show ¬ t = j by omega, show ¬ t = j + 1 by omega, if_true, if_false]
      exact e2
    · rw [if_neg hc, if_neg hc]
theorem inner_mem (lt : α → α → Bool) : ∀ (j : Nat) (d : Array α), j < d.size → (insInner lt 0 j d).size = d.size ∧ (∀ t, j < t → (insInner lt 0 j d)[t]! = d[t]!) ∧ ∀ t, t ≤ j → ∃ u, u ≤ j ∧ (insInner lt 0 j d)[t]! = d[u]!
  | 0, d, _ => ⟨rfl, fun _ _ => rfl, fun t ht => ⟨t, ht, rfl⟩⟩
  | j + 1, d, hj => by
    unfold insInner
    by_cases hc : (decide (j + 1 > 0) && lt d[j + 1]! d[j]!) = true
    · rw [if_pos hc]
      obtain ⟨i1, i2, i3⟩ := inner_mem lt j (swp d (j + 1) j) (by rw [size_swp]; omega)
      have sg := fun k => swp_get d hj (by omega : j < d.size) (k := k)
      refine ⟨by rw [i1, size_swp], fun t ht => ?_, fun t ht => ?_⟩
      · rw [i2 t (by omega), sg]
        simp only [show ¬ t = j by omega, show ¬ t = j + 1 by omega, if_false]
      · by_cases h1 : t = j + 1
        · subst h1
          refine ⟨j, by omega, ?_⟩
          rw [i2 _ (by omega), sg]
          simp
        · obtain ⟨u, hu, e⟩ := i3 t (by omega)
          rw [e, sg]
          by_cases h2 : u = j
          · exact ⟨j + 1, by omega, by subst h2; simp⟩
          · exact ⟨u, by omega, by simp only [h2, show ¬ u = j + 1 by omega, if_false]⟩
    · rw [if_neg hc]
      exact ⟨rfl, fun _ _ => rfl, fun t ht => ⟨t, ht, rfl⟩⟩
theorem outer_eq (lt lt' : α → α → Bool) (b : Nat) : ∀ (m i : Nat) (d : Array α), b - i = m → b ≤ d.size → (∀ s t, t < s → i ≤ s → s < b → lt d[s]! d[t]! = lt' d[s]! d[t]!) → insOuter lt 0 b i d = insOuter lt' 0 b i d
  | m, i, d, hm, hb, h => by
    by_cases hi : i < b
    · rw [insOuter_go _ _ _ _ _ hi, insOuter_go _ _ _ _ _ hi]
      have e := inner_eq lt lt' i d (by omega) (fun t ht => h i t ht (Nat.le_refl _) hi)
      rw [e]
      obtain ⟨i1, i2, i3⟩ := inner_mem lt' i d (by omega)
      match m, hm with
      | m' + 1, hm =>
        refine outer_eq lt lt' b m' (i + 1) _ (by omega) (by rw [i1]; exact hb) (fun s t hts hs hsb => ?_)
        rw [i2 s (by omega)]
        by_cases ht : i < t
        · rw [i2 t ht]
          exact h s t hts (by omega) hsb
        · obtain ⟨u, hu, e⟩ := i3 t (by omega)
          rw [e]
          exact h s u (by omega) (by omega) hsb
      | 0, hm => omega
    · rw [insOuter_stop _ _ _ _ _ hi, insOuter_stop _ _ _ _ _ hi]
end
/-- by day, then by rank, then by ring -/
def lexL (x y : Rc) : Bool := decide (x.day < y.day ∨ (x.day = y.day ∧ (x.rank < y.rank ∨ (x.rank = y.rank ∧ x.bird < y.bird))))
def tks (l : List Rc) : List Rc := l.mergeSort fun x y => !lexL y x
theorem ltTake (x y : Rc) : ltOf takeC x y = decide (x.day < y.day ∨ (x.day = y.day ∧ x.rank < y.rank)) := by
  unfold ltOf takeC orI cmpI
  by_cases h1 : x.day < y.day
  · simp [h1]
  · by_cases h2 : y.day < x.day
    · have : ¬ x.day = y.day := by omega
      simp [h1, h2, this]
    · have h3 : x.day = y.day := by omega
      by_cases h4 : x.rank < y.rank
      · simp [h3, h4]
      · by_cases h5 : y.rank < x.rank <;> simp [h3, h4, h5]
theorem lt_lex (x y : Rc) (h : y.bird < x.bird) : ltOf takeC x y = lexL x y := by
  rw [ltTake]
  unfold lexL
  have : ¬ x.bird < y.bird := by omega
  simp [this]
theorem swoLex : SWO lexL where
  irrefl x := by simp [lexL]
  trans x y z h1 h2 := by simp only [lexL, decide_eq_true_eq] at *; omega
  ntrans x y z h1 h2 := by simp only [lexL, decide_eq_false_iff_not] at *; omega
theorem tks_perm (l : List Rc) : (tks l).Perm l := List.mergeSort_perm _ _
theorem tks_len (l : List Rc) : (tks l).length = l.length := (tks_perm l).length_eq
theorem tks_pw (l : List Rc) : (tks l).Pairwise fun x y => lexL y x = false := by
  have := List.pairwise_mergeSort (le := fun x y : Rc => !lexL y x) (fun a b c h1 h2 => by simp at *; exact swoLex.ntrans _ _ _ h2 h1) (fun a b => by
    cases h : lexL b a
    · simp
    · have : lexL a b = false := by
        cases h2 : lexL a b
        · rfl
        · have := swoLex.trans _ _ _ h h2
          rw [swoLex.irrefl] at this
          cases this
      simp [this]) l
  exact this.imp fun h => by simpa using h
theorem tks_unique {l l' : List Rc} (h : Uniq l) (hp : l'.Perm l) (hs : l'.Pairwise fun x y => lexL y x = false) : l' = tks l :=
  List.Perm.eq_of_pairwise (le := fun x y : Rc => lexL y x = false) (fun a b ha hb h1 h2 => uniq_eq h (hp.mem_iff.1 ha) ((tks_perm l).mem_iff.1 hb) (by simp only [lexL, decide_eq_false_iff_not] at h1 h2; omega)) hs (tks_pw l) (hp.trans (tks_perm l).symm)
/-- the stable sort of birds in the order of their rings -/
theorem ins_tks (l : List Rc) (hu : Uniq l) (hs : l.Pairwise fun x y => x.bird ≤ y.bird) : (insertionSort (ltOf takeC) l.toArray 0 l.length) = (tks l).toArray := by
  have hst : ∀ s t, t < s → s < l.length → (l.toArray[t]!).bird < (l.toArray[s]!).bird := fun s t h1 h2 => by
    have a := List.pairwise_iff_getElem.1 hs t s (by omega) h2 h1
    have b := List.pairwise_iff_getElem.1 hu t s (by omega) h2 h1
    rw [getElem!_pos l.toArray t (by simp; omega), getElem!_pos l.toArray s (by simp; omega)]
    simp only [List.getElem_toArray]
    omega
  have e : insertionSort (ltOf takeC) l.toArray 0 l.length = insertionSort lexL l.toArray 0 l.length := by
    unfold insertionSort
    exact outer_eq _ _ _ _ _ _ rfl (by simp) (fun s t h1 _ h2 => lt_lex _ _ (hst s t h1 h2))
  rw [e]
  obtain ⟨hp, hso⟩ := insertionSort_holds swoLex l.toArray 0 l.length (Nat.zero_le _) (by simp)
  have hp2 : PermIn 0 l.toArray.size l.toArray (insertionSort lexL l.toArray 0 l.length) := by simpa using hp
  have h2 : (insertionSort lexL l.toArray 0 l.length).toList = tks l := tks_unique hu (by simpa using perm_toList hp2) (by
    rw [List.pairwise_iff_getElem]
    intro i j hi hj hij
    have hsz : (insertionSort lexL l.toArray 0 l.length).size = l.length := by have := hp2.1; simpa using this
    have hi' : i < (insertionSort lexL l.toArray 0 l.length).size := by simpa using hi
    have hj' : j < (insertionSort lexL l.toArray 0 l.length).size := by simpa using hj
    have := hso i j (Nat.zero_le _) hij (by omega)
    rw [getElem!_pos _ j hj', getElem!_pos _ i hi'] at this
    simpa using this)
  rw [← h2]
end Go.Proofs.YtnkmcoljijmgpaaGreat
