import Derived.Test.YtpjfdfddcnocpaaHm
set_option linter.unusedSimpArgs false
set_option linter.unusedVariables false
namespace Go.Proofs.Ytpjfdfddcnocpaa
open Go.RowKit

theorem sortL_sorted (zs : List Int) : (sortL zs).Pairwise (· ≤ ·) := by
  have h := List.pairwise_mergeSort (le := fun x y : Int => decide (x ≤ y)) (fun a b c h1 h2 => by simp at *; omega) (fun a b => by simp; omega) zs
  exact h.imp fun h => by simpa using h
theorem compact_lt {zs : List Int} (h : zs.Pairwise (· ≤ ·)) : (Lib.compact zs).Pairwise (· < ·) := by
  unfold Lib.compact Lib.compactUpTo
  rw [List.pairwise_map]
  refine ((List.pairwise_lt_range (n := zs.length)).filter (Lib.keeps zs.toArray)).imp_of_mem fun {i j} hi hj hij => ?_
  obtain ⟨hj1, hj2⟩ := List.mem_filter.1 hj
  have hjl : j < zs.length := by simpa using hj1
  unfold Lib.keeps at hj2
  have hne : zs.toArray[j]! ≠ zs.toArray[j - 1]! := by
    have := of_decide_eq_true hj2
    rcases this with h0 | h0
    · omega
    · exact h0
  have e : ∀ k, (hk : k < zs.length) → zs.toArray[k]! = zs[k] := fun k hk => by simp [hk]
  rw [e j hjl, e (j - 1) (by omega)] at hne
  rw [e i (by omega), e j hjl]
  have h1 : zs[j - 1]'(by omega) ≤ zs[j] := List.pairwise_iff_getElem.1 h (j - 1) j (by omega) hjl (by omega)
  have h2 : zs[i]'(by omega) ≤ zs[j - 1]'(by omega) := by
    by_cases e : i = j - 1
    · subst e; exact Int.le_refl _
    · exact List.pairwise_iff_getElem.1 h i (j - 1) (by omega) (by omega) (by omega)
  omega
theorem namesOf_nodup (ls : List Nat) : (namesOf ls).Nodup := by
  unfold namesOf List.Nodup
  rw [List.pairwise_map]
  refine (compact_lt (sortL_sorted _)).imp_of_mem fun {a b} ha hb hab => ?_
  obtain ⟨n, _, rfl⟩ := namesZ_nat ha
  obtain ⟨m, _, rfl⟩ := namesZ_nat hb
  simp
  omega
theorem sumR_pick (g : Nat → Nat) (x : Nat) : ∀ k, ((List.range k).map fun l => if l = x then g l else 0).sum = if x < k then g x else 0
  | 0 => by simp
  | k + 1 => by
    rw [sumR_succ, sumR_pick g x k]
    by_cases h1 : x < k
    · rw [if_pos h1, if_neg (by omega), if_pos (by omega)]; omega
    · rw [if_neg h1]
      by_cases h2 : k = x
      · subst h2; simp
      · rw [if_neg h2, if_neg (by omega)]
/-- a sum over some of the lofts -/
theorem sumR_mem (g : Nat → Nat) (k : Nat) : ∀ N : List Nat, N.Nodup → (∀ l ∈ N, l < k) → ((List.range k).map fun l => if l ∈ N then g l else 0).sum = (N.map g).sum
  | [], _, _ => by simp [sumR_zero]
  | x :: N, hn, hk => by
    rw [List.nodup_cons] at hn
    have ih := sumR_mem g k N hn.2 (fun l hl => hk l (List.mem_cons_of_mem _ hl))
    have h : ((List.range k).map fun l => if l ∈ x :: N then g l else 0) = ((List.range k).map fun l => (if l = x then g l else 0) + (if l ∈ N then g l else 0)) := by
      refine List.map_congr_left fun l _ => ?_
      by_cases h1 : l = x
      · subst h1; simp [hn.1]
      · by_cases h2 : l ∈ N <;> simp [h1, h2]
    rw [h, sumR_add, ih, sumR_pick, if_pos (hk x List.mem_cons_self)]
    simp

section
variable (north : Int) (cols : Nat) (east : List Int) (svs : List Sv)
/-- how many surveys are wrong at least, if the lofts of N have the places of f -/
def totW (lofts : Nat) (N : List Nat) (f : At) : Nat := ((List.range lofts).map fun l => if l ∈ N then cost north east svs l (f l) else lowC north east svs l (allP cols east.length)).sum
theorem low_le (l : Nat) {p : Nat × Nat} (hp : p ∈ allP cols east.length) : lowC north east svs l (allP cols east.length) ≤ cost north east svs l p := by
  unfold lowC minC
  exact (foldl_min_le _ _).2 _ (List.mem_map.2 ⟨p, hp, rfl⟩)
/-- the choices of settle -/
theorem settle_iff (f : At) : ∀ (N : List Nat) (f0 : At) (sp : Int), N.Nodup → 0 ≤ sp →
    (f ∈ settleL (spotsOf north cols east svs) N f0 sp ↔ (∀ l ∈ N, f l ∈ allP cols east.length) ∧ (∀ l, l ∉ N → f l = f0 l) ∧ (((N.map fun l => cost north east svs l (f l) - lowC north east svs l (allP cols east.length)).sum : Nat) : Int) ≤ sp)
  | [], f0, sp, _, hsp => by
    have e : settleL (spotsOf north cols east svs) [] f0 sp = [f0] := rfl
    rw [e, List.mem_singleton]
    constructor
    · rintro rfl
      exact ⟨by simp, fun _ _ => rfl, by simpa using hsp⟩
    · rintro ⟨_, h, _⟩
      exact funext fun l => h l (by simp)
  | k :: N, f0, sp, hn, hsp => by
    rw [List.nodup_cons] at hn
    rw [settleL_cons, List.mem_flatMap]
    constructor
    · rintro ⟨s, hs, hf⟩
      unfold stepL at hf
      split at hf
      · rename_i hle
        obtain ⟨h1, h2, h3⟩ := (settle_iff f N _ _ hn.2 (by omega)).1 hf
        obtain ⟨p, hp, rfl⟩ := List.mem_map.1 hs
        have hk : f k = p := by rw [h2 k hn.1]; simp [upd]
        refine ⟨fun l hl => ?_, fun l hl => ?_, ?_⟩
        · rcases List.mem_cons.1 hl with rfl | hl
          · rw [hk]; exact hp
          · exact h1 l hl
        · have hlk : l ≠ k := fun e => hl (e ▸ List.mem_cons_self)
          rw [h2 l (fun h => hl (List.mem_cons_of_mem _ h))]
          simp [upd, hlk]
        · rw [List.map_cons, List.sum_cons, hk]
          simp only at h3
          omega
      · simp at hf
    · rintro ⟨h1, h2, h3⟩
      have hp := h1 k List.mem_cons_self
      rw [List.map_cons, List.sum_cons] at h3
      refine ⟨⟨(f k).1, (f k).2, cost north east svs k (f k) - lowC north east svs k (allP cols east.length)⟩, List.mem_map.2 ⟨f k, hp, rfl⟩, ?_⟩
      unfold stepL
      rw [if_pos (by simp only; omega)]
      refine (settle_iff f N _ _ hn.2 (by simp only; omega)).2 ⟨fun l hl => h1 l (List.mem_cons_of_mem _ hl), fun l hl => ?_, by simp only; omega⟩
      by_cases hlk : l = k
      · subst hlk; simp [upd]
      · rw [h2 l (fun h => (List.mem_cons.1 h).elim hlk hl)]
        simp [upd, hlk]
/-- the truths of some lofts: what they are -/
theorem truth_iff {wrong : Int} {lofts : Nat} {ls : List Nat} (hls : ∀ l ∈ ls, l < lofts) (hw : ¬ wrong < fewSum north cols east svs lofts) (f : At) :
    f ∈ truthsOf (spotsOf north cols east svs) ls (wrong - fewSum north cols east svs lofts) ↔
      (∀ l ∈ ls, f l ∈ allP cols east.length) ∧ (∀ l, l ∉ ls → f l = (0, 0)) ∧ (totW north cols east svs lofts (namesOf ls) f : Int) ≤ wrong := by
  unfold truthsOf
  rw [settle_iff north cols east svs f (namesOf ls) _ _ (namesOf_nodup ls) (by omega)]
  have hm : ∀ l, l ∈ namesOf ls ↔ l ∈ ls := fun l => ⟨namesOf_mem, namesOf_mem'⟩
  simp only [hm]
  refine and_congr_right fun h1 => and_congr_right fun h2 => ?_
  have hk : ∀ l ∈ namesOf ls, l < lofts := fun l hl => hls l (namesOf_mem hl)
  have e1 := sumR_mem (fun l => cost north east svs l (f l) - lowC north east svs l (allP cols east.length)) lofts (namesOf ls) (namesOf_nodup ls) hk
  have e2 : totW north cols east svs lofts (namesOf ls) f = ((namesOf ls).map fun l => cost north east svs l (f l) - lowC north east svs l (allP cols east.length)).sum + fewSum north cols east svs lofts := by
    rw [← e1]
    unfold totW fewSum
    rw [← sumR_add]
    refine sumR_congr lofts fun l hl => ?_
    by_cases h : l ∈ namesOf ls
    · rw [if_pos h, if_pos h]
      have := low_le north cols east svs l (h1 l (namesOf_mem h))
      omega
    · rw [if_neg h, if_neg h]; omega
  omega
end
/-- fewer surveys are wrong: more is true -/
theorem totW_le {north : Int} {cols lofts : Nat} {east : List Int} {svs svs' : List Sv} (h : ∀ l, ∀ p ∈ allP cols east.length, cost north east svs' l p ≤ cost north east svs l p) (hc : 1 ≤ cols) (hr : 1 ≤ east.length) {N : List Nat} {f : At} (hf : ∀ l ∈ N, f l ∈ allP cols east.length) :
    totW north cols east svs' lofts N f ≤ totW north cols east svs lofts N f := by
  unfold totW
  refine sumR_le lofts fun l _ => ?_
  split
  · rename_i hl
    exact h l _ (hf l hl)
  · obtain ⟨_, p, hp, e⟩ := low_spec north cols east svs l hc hr
    have := low_le north cols east svs' l hp
    have := h l p hp
    omega
theorem few_le {north : Int} {cols lofts : Nat} {east : List Int} {svs svs' : List Sv} (h : ∀ l, ∀ p ∈ allP cols east.length, cost north east svs' l p ≤ cost north east svs l p) (hc : 1 ≤ cols) (hr : 1 ≤ east.length) :
    fewSum north cols east svs' lofts ≤ fewSum north cols east svs lofts := by
  have := totW_le (lofts := lofts) h hc hr (N := []) (f := fun _ => (0, 0)) (by simp)
  simpa [totW, fewSum] using this
theorem truths_sub {north wrong wrong' : Int} {cols lofts : Nat} {east : List Int} {svs svs' : List Sv} (h : ∀ l, ∀ p ∈ allP cols east.length, cost north east svs' l p ≤ cost north east svs l p) (hc : 1 ≤ cols) (hr : 1 ≤ east.length) (hww : wrong ≤ wrong') {ls : List Nat} (hls : ∀ l ∈ ls, l < lofts)
    (hw : ¬ wrong < fewSum north cols east svs lofts) {f : At} (hf : f ∈ truthsOf (spotsOf north cols east svs) ls (wrong - fewSum north cols east svs lofts)) :
    f ∈ truthsOf (spotsOf north cols east svs') ls (wrong' - fewSum north cols east svs' lofts) := by
  have hfe := few_le (lofts := lofts) h hc hr
  rw [truth_iff north cols east svs hls hw] at hf
  rw [truth_iff north cols east svs' hls (by omega)]
  have := totW_le (lofts := lofts) h hc hr (N := namesOf ls) (f := f) (fun l hl => hf.1 l (namesOf_mem hl))
  exact ⟨hf.1, hf.2.1, by omega⟩
/-- the places of one loft, in their order -/
theorem places_eq (north : Int) (cols : Nat) (east : List Int) (svs : List Sv) (l : Nat) (sp : Int) :
    ((truthsOf (spotsOf north cols east svs) [l] sp).map fun f => f l) = (allP cols east.length).filter fun p => decide (((cost north east svs l p - lowC north east svs l (allP cols east.length) : Nat) : Int) ≤ sp) := by
  unfold truthsOf
  rw [names_one, settleL_cons]
  unfold spotsOf
  rw [List.flatMap_map, List.map_flatMap]
  generalize allP cols east.length = L at *
  have key : ∀ L' : List (Nat × Nat), (L'.flatMap fun p => (stepL (fun l => L.map fun p => ⟨p.1, p.2, cost north east svs l p - lowC north east svs l L⟩) l [] (fun _ => (0, 0)) sp ⟨p.1, p.2, cost north east svs l p - lowC north east svs l L⟩).map fun f => f l) = L'.filter fun p => decide (((cost north east svs l p - lowC north east svs l L : Nat) : Int) ≤ sp) := by
    intro L'
    induction L' with
    | nil => rfl
    | cons p L' ih =>
      rw [List.flatMap_cons, ih, List.filter_cons]
      unfold stepL
      by_cases h : ((cost north east svs l p - lowC north east svs l L : Nat) : Int) ≤ sp
      · rw [if_pos h, if_pos (by simpa using h)]
        simp [settleL, upd]
      · rw [if_neg h, if_neg (by simpa using h)]
        simp
  exact key L
end Go.Proofs.Ytpjfdfddcnocpaa
