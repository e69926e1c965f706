import Derived.Test.YtpjfdfddcnocpaaMb
set_option linter.unusedSimpArgs false
set_option linter.unusedVariables false
namespace Go.Proofs.Ytpjfdfddcnocpaa
open Go.RowKit

/-- the choices of which at most s surveys are wrong -/
def cntC (cs : Nat → List Nat) : Nat → Nat → Nat
  | 0, _ => 1
  | k + 1, s => ((cs k).map fun c => if c ≤ s then cntC cs k (s - c) else 0).sum
theorem sum_le {α : Type} {f g : α → Nat} : ∀ L : List α, (∀ x ∈ L, f x ≤ g x) → (L.map f).sum ≤ (L.map g).sum
  | [], _ => Nat.le_refl _
  | x :: L, h => by
    rw [List.map_cons, List.map_cons, List.sum_cons, List.sum_cons]
    have := sum_le L (fun y hy => h y (List.mem_cons_of_mem _ hy))
    have := h x List.mem_cons_self
    omega
theorem sum_congr {α : Type} {f g : α → Nat} (L : List α) (h : ∀ x ∈ L, f x = g x) : (L.map f).sum = (L.map g).sum := by rw [List.map_congr_left h]
theorem sum_zero {α : Type} {f : α → Nat} (L : List α) (h : ∀ x ∈ L, f x = 0) : (L.map f).sum = 0 := by
  induction L with
  | nil => rfl
  | cons x L ih => rw [List.map_cons, List.sum_cons, h x List.mem_cons_self, ih (fun y hy => h y (List.mem_cons_of_mem _ hy))]
theorem sum_add {α : Type} (f g : α → Nat) : ∀ L : List α, (L.map fun x => f x + g x).sum = (L.map f).sum + (L.map g).sum
  | [] => rfl
  | x :: L => by
    simp only [List.map_cons, List.sum_cons]
    rw [sum_add f g L]
    omega
theorem cntC_mono {α : Type} (L : List α) (c c' : Nat → α → Nat) (h : ∀ l, ∀ p ∈ L, c' l p ≤ c l p) : ∀ (k s s' : Nat), s ≤ s' → cntC (fun l => L.map (c l)) k s ≤ cntC (fun l => L.map (c' l)) k s'
  | 0, _, _, _ => Nat.le_refl _
  | k + 1, s, s', hs => by
    unfold cntC
    rw [List.map_map, List.map_map]
    refine sum_le L fun p hp => ?_
    have h1 := h k p hp
    simp only [Function.comp]
    split
    · rw [if_pos (by omega)]
      exact cntC_mono L c c' h k _ _ (by omega)
    · exact Nat.zero_le _
/-- the sum of ways up to s -/
theorem ways_sum (sp : Int) (rows : Nat → List Sp) (S : Nat) (hS : sp = S) : ∀ (k s : Nat), s ≤ S → ((List.range (s + 1)).map fun t => ways sp rows k t).sum = cntC (fun l => (rows l).map Sp.more) k s
  | 0, s, _ => by
    unfold cntC ways
    have := sumR_pick (fun _ => 1) 0 (s + 1)
    rw [if_pos (by omega)] at this
    exact this
  | k + 1, s, hs => by
    have ih := ways_sum sp rows S hS k
    unfold cntC ways pw
    have e1 : ∀ t, t < s + 1 → (if (t : Int) ≤ sp then (((rows k).map Sp.more).map fun m => if m ≤ t then ways sp rows k (t - m) else 0).sum else 0) = (((rows k).map Sp.more).map fun m => if m ≤ t then ways sp rows k (t - m) else 0).sum := fun t ht => if_pos (by omega)
    rw [sumR_congr (s + 1) e1]
    generalize (rows k).map Sp.more = L
    have sw : ∀ (n : Nat) (L : List Nat) (g : Nat → Nat → Nat), ((List.range n).map fun t => (L.map (g t)).sum).sum = (L.map fun m => ((List.range n).map fun t => g t m).sum).sum := by
      intro n L g
      induction L with
      | nil => simp [sumR_zero]
      | cons m L ihL =>
        simp only [List.map_cons, List.sum_cons]
        rw [sumR_add, ihL]
    rw [sw]
    refine sum_congr L fun m _ => ?_
    by_cases hm : m ≤ s
    · rw [if_pos hm, ← ih (s - m) (by omega)]
      have key : ∀ d, ((List.range (m + d)).map fun t => if m ≤ t then ways sp rows k (t - m) else 0).sum = ((List.range d).map fun u => ways sp rows k u).sum := by
        intro d
        induction d with
        | zero =>
          rw [sumR_congr (g := fun _ => 0) (m + 0) (fun t ht => if_neg (by omega)), sumR_zero]
          rfl
        | succ d ihd =>
          rw [← Nat.add_assoc, sumR_succ, sumR_succ, ihd, if_pos (by omega)]
          congr 2
          omega
      have := key (s - m + 1)
      rw [show m + (s - m + 1) = s + 1 by omega] at this
      exact this
    · rw [if_neg hm]
      exact (sumR_congr (g := fun _ => 0) (s + 1) (fun t ht => if_neg (by omega))).trans (sumR_zero _)
theorem ways_over (sp : Int) (rows : Nat → List Sp) (k t : Nat) (ht : sp < t) (h : 0 < k ∨ 0 < t) : ways sp rows k t = 0 := by
  cases k with
  | zero => unfold ways; rw [if_neg (by omega)]
  | succ k => unfold ways pw; rw [if_neg (by omega)]
theorem range4 (f : Nat → Nat) : f 0 + f 1 + f 2 + f 3 = ((List.range 4).map f).sum := by simp [List.range_succ]; omega
theorem manyN_eq (S : Nat) (rows : Nat → List Sp) (k : Nat) (hS : S ≤ 3) : manyN S rows k = cntC (fun l => (rows l).map Sp.more) k S := by
  rw [← ways_sum S rows S rfl k S (Nat.le_refl _)]
  unfold manyN
  have o : ∀ t : Nat, S < t → ways S rows k t = 0 := fun t ht => ways_over _ _ _ _ (by omega) (.inr (by omega))
  have e := range4 (ways S rows k)
  have h : S = 0 ∨ S = 1 ∨ S = 2 ∨ S = 3 := by omega
  rw [e]
  clear e
  generalize ways (S : Int) rows k = f at *
  rcases h with rfl | rfl | rfl | rfl
  · simp [List.range_succ, o 1 (by omega), o 2 (by omega), o 3 (by omega)]
  · simp [List.range_succ, o 2 (by omega), o 3 (by omega)]
  · simp [List.range_succ, o 3 (by omega)]
  · rfl
/-- fewer than the least: no choice -/
theorem cntC_low {α : Type} (L : List α) (c : Nat → α → Nat) (low : Nat → Nat) (h : ∀ l, ∀ p ∈ L, low l ≤ c l p) : ∀ (k s : Nat), s < ((List.range k).map low).sum → cntC (fun l => L.map (c l)) k s = 0
  | 0, s, hs => by simp at hs
  | k + 1, s, hs => by
    rw [sumR_succ] at hs
    unfold cntC
    rw [List.map_map]
    refine sum_zero L fun p hp => ?_
    have := h k p hp
    simp only [Function.comp]
    split
    · exact cntC_low L c low h k _ (by omega)
    · rfl
theorem cntC_shift {α : Type} (L : List α) (c : Nat → α → Nat) (low : Nat → Nat) (h : ∀ l, ∀ p ∈ L, low l ≤ c l p) : ∀ (k s : Nat), cntC (fun l => L.map fun p => c l p - low l) k s = cntC (fun l => L.map (c l)) k (s + ((List.range k).map low).sum)
  | 0, s => rfl
  | k + 1, s => by
    unfold cntC
    rw [List.map_map, List.map_map]
    refine sum_congr L fun p hp => ?_
    have h1 := h k p hp
    rw [sumR_succ]
    simp only [Function.comp]
    by_cases h2 : c k p - low k ≤ s
    · rw [if_pos h2, if_pos (by omega), cntC_shift L c low h k]
      congr 1
      omega
    · rw [if_neg h2]
      split
      · exact (cntC_low L c low h k _ (by omega)).symm
      · rfl
/-- how many truths there are -/
theorem manyV_eq {north wrong : Int} {cols lofts : Nat} {east : List Int} {svs : List Sv} (hw : 0 ≤ wrong ∧ wrong ≤ 3) (hl : 1 ≤ lofts) :
    manyV north wrong cols lofts east svs = cntC (fun l => (allP cols east.length).map (cost north east svs l)) lofts wrong.toNat := by
  unfold manyV
  by_cases h : wrong < fewSum north cols east svs lofts
  · rw [cntC_low (allP cols east.length) (cost north east svs) (fun l => lowC north east svs l (allP cols east.length)) (fun l p hp => low_le north cols east svs l hp) lofts _ (by unfold fewSum at h; omega)]
    have o : ∀ t : Nat, ways (wrong - (fewSum north cols east svs lofts : Int)) (spotsOf north cols east svs) lofts t = 0 := fun t => ways_over _ _ _ _ (by omega) (.inl (by omega))
    unfold manyN
    rw [o, o, o, o]
  · obtain ⟨S, hS⟩ : ∃ S : Nat, wrong - (fewSum north cols east svs lofts : Int) = S := ⟨(wrong - (fewSum north cols east svs lofts : Int)).toNat, by omega⟩
    rw [hS, manyN_eq S _ _ (by omega)]
    have e : (fun l => (spotsOf north cols east svs l).map Sp.more) = fun l => (allP cols east.length).map fun p => cost north east svs l p - lowC north east svs l (allP cols east.length) := by
      funext l
      unfold spotsOf
      rw [List.map_map]
      rfl
    rw [e, cntC_shift (allP cols east.length) (cost north east svs) (fun l => lowC north east svs l (allP cols east.length)) (fun l p hp => low_le north cols east svs l hp)]
    congr 1
    unfold fewSum at hS
    omega
theorem many_mono {north wrong wrong' : Int} {cols lofts : Nat} {east : List Int} {svs svs' : List Sv} (h : ∀ l, ∀ p ∈ allP cols east.length, cost north east svs' l p ≤ cost north east svs l p) (hw : 0 ≤ wrong ∧ wrong ≤ 3) (hw' : 0 ≤ wrong' ∧ wrong' ≤ 3) (hww : wrong ≤ wrong') (hl : 1 ≤ lofts) :
    manyV north wrong cols lofts east svs ≤ manyV north wrong' cols lofts east svs' := by
  rw [manyV_eq hw hl, manyV_eq hw' hl]
  exact cntC_mono _ (fun l => cost north east svs l) (fun l => cost north east svs' l) h lofts _ _ (by omega)
end Go.Proofs.Ytpjfdfddcnocpaa
