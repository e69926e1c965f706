import Derived.Test.YtpjfdfddcnocpaaDe
import Derived.Test.YtpjfdfddcnocpaaDc
set_option linter.unusedSimpArgs false
set_option linter.unusedVariables false
namespace Go.Proofs.Ytpjfdfddcnocpaa
open Go.RowKit
attribute [local go_sem] Oper.semAt_some

section
variable (north wrong : Int) (cols lofts : Nat) (east : List Int) (svs : List Sv)
theorem totW_of {ls N : List Nat} (hnd : N.Nodup) (hm : ∀ l, l ∈ ls ↔ l ∈ N) (hlt : ∀ l ∈ N, l < lofts) (f : At) : totW north cols east svs lofts (namesOf ls) f + (N.map fun l => lowC north east svs l (allP cols east.length)).sum = fewSum north cols east svs lofts + (N.map fun l => cost north east svs l (f l)).sum := by
  have hm2 : ∀ l, l ∈ namesOf ls ↔ l ∈ N := fun l => ⟨fun h => (hm l).1 (namesOf_mem h), fun h => namesOf_mem' ((hm l).2 h)⟩
  have s1 := sumR_mem (fun l => lowC north east svs l (allP cols east.length)) lofts N hnd hlt
  have s2 := sumR_mem (fun l => cost north east svs l (f l)) lofts N hnd hlt
  rw [← s1, ← s2]
  unfold totW fewSum
  rw [← sum_add, ← sum_add]
  refine sum_congr _ fun l _ => ?_
  by_cases h : l ∈ N
  · rw [if_pos ((hm2 l).2 h), if_pos h, if_pos h]; omega
  · rw [if_neg (fun h' => h ((hm2 l).1 h')), if_neg h, if_neg h]
/-- how many surveys are wrong at least, step by step -/
def n1T (o : Nat) (p0 : Nat × Nat) : Int := (fewSum north cols east svs lofts : Int) - lowC north east svs o (allP cols east.length) + cost north east svs o p0
def n2T (o a : Nat) (p0 p1 : Nat × Nat) : Int := if o = a then n1T north cols lofts east svs o p0 else n1T north cols lofts east svs o p0 - lowC north east svs a (allP cols east.length) + cost north east svs a p1
def n3T (o a b : Nat) (p0 p1 p2 : Nat × Nat) : Int := if a = b ∨ o = b then n2T north cols lofts east svs o a p0 p1 else n2T north cols lofts east svs o a p0 p1 - lowC north east svs b (allP cols east.length) + cost north east svs b p2
theorem tot3 {o a b : Nat} (ho : o < lofts) (ha : a < lofts) (hb : b < lofts) (f : At) : (totW north cols east svs lofts (namesOf [o, a, b]) f : Int) = n3T north cols lofts east svs o a b (f o) (f a) (f b) := by
  unfold n3T n2T n1T
  by_cases h1 : o = a
  · subst h1
    by_cases h2 : o = b
    · subst h2
      have h := totW_of north cols lofts east svs (ls := [o, o, o]) (N := [o]) (by simp) (by simp) (by simp [ho]) f
      simp at h
      simp
      omega
    · have h := totW_of north cols lofts east svs (ls := [o, o, b]) (N := [o, b]) (by simp [h2]) (by simp) (by simp [ho, hb]) f
      simp at h
      simp [h2]
      omega
  · by_cases h2 : a = b
    · subst h2
      have h := totW_of north cols lofts east svs (ls := [o, a, a]) (N := [o, a]) (by simp [h1]) (by simp) (by simp [ho, ha]) f
      simp at h
      simp [h1]
      omega
    · by_cases h3 : o = b
      · subst h3
        have h := totW_of north cols lofts east svs (ls := [o, a, o]) (N := [o, a]) (by simp [h1]) (by intro l; simp; omega) (by simp [ho, ha]) f
        simp at h
        simp [h1]
        omega
      · have h := totW_of north cols lofts east svs (ls := [o, a, b]) (N := [o, a, b]) (by simp [h1, h2, h3]) (by simp) (by simp [ho, ha, hb]) f
        simp at h
        simp [h1, h2, h3]
        omega
theorem mem_TT3 (o a b : Nat) (y : TRow) : y ∈ TT (cost north east svs) (fun l => lowC north east svs l (allP cols east.length)) wrong [o, a, b] (allP cols east.length) (fewSum north cols east svs lofts) 3 ↔
    ∃ p0 ∈ allP cols east.length, ∃ p1 ∈ allP cols east.length, ∃ p2 ∈ allP cols east.length, n1T north cols lofts east svs o p0 ≤ wrong ∧ n2T north cols lofts east svs o a p0 p1 ≤ wrong ∧ (o = a → p0 = p1) ∧ n3T north cols lofts east svs o a b p0 p1 p2 ≤ wrong ∧ (a = b → p1 = p2) ∧ (a ≠ b → o = b → p0 = p2) ∧ ([p0, p1, p2], n3T north cols lofts east svs o a b p0 p1 p2) = y := by
  have e0 : oldI [o, a, b] 0 0 = -1 := rfl
  have e1 : oldI [o, a, b] 1 1 = if o = a then 0 else -1 := by simp [oldI]
  have e2 : oldI [o, a, b] 2 2 = if a = b then 1 else if o = b then 0 else -1 := by simp [oldI]
  have d0 : [o, a, b].getD 0 0 = o := rfl
  have d1 : [o, a, b].getD 1 0 = a := rfl
  have d2 : [o, a, b].getD 2 0 = b := rfl
  have k1 : ∀ p0, nT (cost north east svs) (fun l => lowC north east svs l (allP cols east.length)) o (-1) ([], (fewSum north cols east svs lofts : Int)) p0 = n1T north cols lofts east svs o p0 := fun p0 => by unfold nT n1T; simp
  have k2 : ∀ p0 p1, nT (cost north east svs) (fun l => lowC north east svs l (allP cols east.length)) a (if o = a then 0 else -1) ([p0], n1T north cols lofts east svs o p0) p1 = n2T north cols lofts east svs o a p0 p1 := fun p0 p1 => by
    unfold nT n2T
    by_cases h : o = a <;> simp [h]
  have k3 : ∀ p0 p1 p2, nT (cost north east svs) (fun l => lowC north east svs l (allP cols east.length)) b (if a = b then 1 else if o = b then 0 else -1) ([p0, p1], n2T north cols lofts east svs o a p0 p1) p2 = n3T north cols lofts east svs o a b p0 p1 p2 := fun p0 p1 p2 => by
    unfold nT n3T
    by_cases h : a = b
    · simp [h]
    · by_cases h2 : o = b <;> simp [h, h2]
  have q1 : ∀ p0, okT (cost north east svs) (fun l => lowC north east svs l (allP cols east.length)) wrong o (-1) ([], (fewSum north cols east svs lofts : Int)) p0 = true ↔ n1T north cols lofts east svs o p0 ≤ wrong := fun p0 => by
    unfold okT
    rw [k1]
    simp
  have q2 : ∀ p0 p1, okT (cost north east svs) (fun l => lowC north east svs l (allP cols east.length)) wrong a (if o = a then 0 else -1) ([p0], n1T north cols lofts east svs o p0) p1 = true ↔ n2T north cols lofts east svs o a p0 p1 ≤ wrong ∧ (o = a → p0 = p1) := fun p0 p1 => by
    unfold okT
    rw [k2]
    by_cases h : o = a <;> simp [h]
  have q3 : ∀ p0 p1 p2, okT (cost north east svs) (fun l => lowC north east svs l (allP cols east.length)) wrong b (if a = b then 1 else if o = b then 0 else -1) ([p0, p1], n2T north cols lofts east svs o a p0 p1) p2 = true ↔ n3T north cols lofts east svs o a b p0 p1 p2 ≤ wrong ∧ (a = b → p1 = p2) ∧ (a ≠ b → o = b → p0 = p2) := fun p0 p1 p2 => by
    unfold okT
    rw [k3]
    by_cases h : a = b
    · simp [h]
    · by_cases h2 : o = b <;> simp [h, h2]
  rw [TT_succ, mem_stepT, d2, e2]
  constructor
  · rintro ⟨x2, hx2, p2, hp2, hok2, rfl⟩
    rw [TT_succ, mem_stepT, d1, e1] at hx2
    obtain ⟨x1, hx1, p1, hp1, hok1, rfl⟩ := hx2
    rw [TT_succ, mem_stepT, d0, e0] at hx1
    obtain ⟨x0, hx0, p0, hp0, hok0, rfl⟩ := hx1
    obtain rfl : x0 = ([], (fewSum north cols east svs lofts : Int)) := by simpa [TT] using hx0
    rw [k1] at *
    simp only [List.nil_append] at *
    rw [k2] at *
    simp only [List.singleton_append] at *
    rw [k3]
    have r1 := (q1 p0).1 hok0
    have r2 := (q2 p0 p1).1 hok1
    have r3 := (q3 p0 p1 p2).1 hok2
    exact ⟨p0, hp0, p1, hp1, p2, hp2, r1, r2.1, r2.2, r3.1, r3.2.1, r3.2.2, rfl⟩
  · rintro ⟨p0, hp0, p1, hp1, p2, hp2, r1, r2, r3, r4, r5, r6, rfl⟩
    refine ⟨([p0, p1], n2T north cols lofts east svs o a p0 p1), ?_, p2, hp2, (q3 p0 p1 p2).2 ⟨r4, r5, r6⟩, by rw [k3]; rfl⟩
    rw [TT_succ, mem_stepT, d1, e1]
    refine ⟨([p0], n1T north cols lofts east svs o p0), ?_, p1, hp1, (q2 p0 p1).2 ⟨r2, r3⟩, by rw [k2]; rfl⟩
    rw [TT_succ, mem_stepT, d0, e0]
    exact ⟨([], (fewSum north cols east svs lofts : Int)), by simp [TT], p0, hp0, (q1 p0).2 r1, by rw [k1]; rfl⟩
/-- the rows are the places of the truths -/
theorem tt3_truths {o a b : Nat} (ho : o < lofts) (ha : a < lofts) (hb : b < lofts) (hw : ¬ wrong < fewSum north cols east svs lofts) (y : TRow) (hy : y ∈ TT (cost north east svs) (fun l => lowC north east svs l (allP cols east.length)) wrong [o, a, b] (allP cols east.length) (fewSum north cols east svs lofts) 3) :
    ∃ f ∈ truthsOf (spotsOf north cols east svs) [o, a, b] (wrong - fewSum north cols east svs lofts), y.1 = [f o, f a, f b] := by
  rw [mem_TT3] at hy
  obtain ⟨p0, hp0, p1, hp1, p2, hp2, r1, r2, r3, r4, r5, r6, rfl⟩ := hy
  have hlt : ∀ l ∈ [o, a, b], l < lofts := by simp; exact ⟨ho, ha, hb⟩
  obtain ⟨f, fo, fa, fb, fz⟩ : ∃ f : At, f o = p0 ∧ f a = p1 ∧ f b = p2 ∧ ∀ l, l ≠ o → l ≠ a → l ≠ b → f l = (0, 0) := by
    refine ⟨fun l => if l = o then p0 else if l = a then p1 else if l = b then p2 else (0, 0), by simp, ?_, ?_, ?_⟩
    · by_cases h : a = o
      · simp [h]; exact r3 h.symm
      · simp [h]
    · by_cases h : b = o
      · simp [h]
        by_cases h2 : a = b
        · exact (r3 (by omega)).trans (r5 h2)
        · exact r6 h2 h.symm
      · by_cases h2 : b = a
        · simp [h2]
          by_cases h4 : a = o
          · omega
          · simp [h4]; exact r5 h2.symm
        · simp [h, h2]
    · intro l h1 h2 h3
      simp [h1, h2, h3]
  refine ⟨f, ?_, by rw [fo, fa, fb]⟩
  rw [truth_iff north cols east svs hlt hw]
  refine ⟨?_, ?_, ?_⟩
  · intro l hl
    simp only [List.mem_cons, List.not_mem_nil, or_false] at hl
    rcases hl with h | h | h
    · rw [h, fo]; exact hp0
    · rw [h, fa]; exact hp1
    · rw [h, fb]; exact hp2
  · intro l hl
    simp at hl
    exact fz l hl.1 hl.2.1 hl.2.2
  · rw [tot3 north cols lofts east svs ho ha hb, fo, fa, fb]
    exact r4
theorem truths_tt3 {o a b : Nat} (ho : o < lofts) (ha : a < lofts) (hb : b < lofts) (hw : ¬ wrong < fewSum north cols east svs lofts) {f : At} (hf : f ∈ truthsOf (spotsOf north cols east svs) [o, a, b] (wrong - fewSum north cols east svs lofts)) :
    ∃ y ∈ TT (cost north east svs) (fun l => lowC north east svs l (allP cols east.length)) wrong [o, a, b] (allP cols east.length) (fewSum north cols east svs lofts) 3, y.1 = [f o, f a, f b] := by
  have hlt : ∀ l ∈ [o, a, b], l < lofts := by simp; exact ⟨ho, ha, hb⟩
  rw [truth_iff north cols east svs hlt hw] at hf
  obtain ⟨h1, _, h3⟩ := hf
  rw [tot3 north cols lofts east svs ho ha hb] at h3
  have po := h1 o (by simp)
  have pa := h1 a (by simp)
  have pb := h1 b (by simp)
  have ca := low_le north cols east svs a pa
  have cb := low_le north cols east svs b pb
  have h32 : n2T north cols lofts east svs o a (f o) (f a) ≤ n3T north cols lofts east svs o a b (f o) (f a) (f b) := by
    unfold n3T
    split <;> omega
  have h21 : n1T north cols lofts east svs o (f o) ≤ n2T north cols lofts east svs o a (f o) (f a) := by
    unfold n2T
    split <;> omega
  refine ⟨_, (mem_TT3 north wrong cols lofts east svs o a b _).2 ⟨f o, po, f a, pa, f b, pb, by omega, by omega, fun h => by rw [h], h3, fun h => by rw [h], fun _ h => by rw [h], rfl⟩, rfl⟩
end
/-- what the reference says of the flags that it found -/
def nearR (f s e : Bool) : Int := if f && !s && !e then 1 else if s && !f && !e then 2 else if e && !f && !s then 3 else 4
theorem cmpI_val (p q : Int) : (cmpI p q = 1 ↔ p < q) ∧ (cmpI p q = 2 ↔ q < p) ∧ (cmpI p q = 3 ↔ p = q) := by
  unfold cmpI
  split
  · refine ⟨by simp; omega, by simp; omega, by simp; omega⟩
  · split
    · refine ⟨by simp; omega, by simp; omega, by simp; omega⟩
    · refine ⟨by simp; omega, by simp; omega, by simp; omega⟩
theorem cmpI_cases (p q : Int) : cmpI p q = 1 ∨ cmpI p q = 2 ∨ cmpI p q = 3 := by
  unfold cmpI
  split
  · exact .inl rfl
  · split
    · exact .inr (.inl rfl)
    · exact .inr (.inr rfl)
theorem nearV_R {S : List Int} (hne : S ≠ []) (h : ∀ x ∈ S, x = 1 ∨ x = 2 ∨ x = 3) : nearV S = nearR (decide ((1 : Int) ∈ S)) (decide ((2 : Int) ∈ S)) (decide ((3 : Int) ∈ S)) := by
  obtain ⟨x0, hx0⟩ := List.exists_mem_of_ne_nil S hne
  by_cases h1 : (1 : Int) ∈ S <;> by_cases h2 : (2 : Int) ∈ S <;> by_cases h3 : (3 : Int) ∈ S
  · rw [nearV_two h1 h2 (by decide)]; simp [nearR, h1, h2, h3]
  · rw [nearV_two h1 h2 (by decide)]; simp [nearR, h1, h2, h3]
  · rw [nearV_two h1 h3 (by decide)]; simp [nearR, h1, h2, h3]
  · rw [nearV_same (k := 1) hne (fun x hx => by
      rcases h x hx with r | r | r
      · exact r
      · exact absurd (r ▸ hx) h2
      · exact absurd (r ▸ hx) h3)]; simp [nearR, h1, h2, h3]
  · rw [nearV_two h2 h3 (by decide)]; simp [nearR, h1, h2, h3]
  · rw [nearV_same (k := 2) hne (fun x hx => by
      rcases h x hx with r | r | r
      · exact absurd (r ▸ hx) h1
      · exact r
      · exact absurd (r ▸ hx) h3)]; simp [nearR, h1, h2, h3]
  · rw [nearV_same (k := 3) hne (fun x hx => by
      rcases h x hx with r | r | r
      · exact absurd (r ▸ hx) h1
      · exact absurd (r ▸ hx) h2
      · exact r)]; simp [nearR, h1, h2, h3]
  · exfalso
    rcases h x0 hx0 with r | r | r
    · exact h1 (r ▸ hx0)
    · exact h2 (r ▸ hx0)
    · exact h3 (r ▸ hx0)
end Go.Proofs.Ytpjfdfddcnocpaa
