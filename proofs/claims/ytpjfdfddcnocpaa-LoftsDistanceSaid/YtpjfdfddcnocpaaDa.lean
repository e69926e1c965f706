import Derived.Test.YtpjfdfddcnocpaaMc
set_option linter.unusedSimpArgs false
set_option linter.unusedVariables false
namespace Go.Proofs.Ytpjfdfddcnocpaa
open Go.RowKit

/-- the least and the greatest of some numbers, -1 if there are none, as the reference counts them -/
def loL (L : List Int) : Int := L.foldl (fun m n => if m < 0 ∨ n < m then n else m) (-1)
def hiL (L : List Int) : Int := L.foldl max (-1)
theorem loL_snoc (L : List Int) (n : Int) : loL (L ++ [n]) = if loL L < 0 ∨ n < loL L then n else loL L := by
  unfold loL
  rw [List.foldl_append]
  rfl
theorem hiL_snoc (L : List Int) (n : Int) : hiL (L ++ [n]) = max (hiL L) n := by simp [hiL]
theorem lo_fold : ∀ (L : List Int) (m : Int), 0 ≤ m → (∀ x ∈ L, 0 ≤ x) →
    (L.foldl (fun m n => if m < 0 ∨ n < m then n else m) m = m ∨ L.foldl (fun m n => if m < 0 ∨ n < m then n else m) m ∈ L) ∧ L.foldl (fun m n => if m < 0 ∨ n < m then n else m) m ≤ m ∧ ∀ x ∈ L, L.foldl (fun m n => if m < 0 ∨ n < m then n else m) m ≤ x
  | [], m, _, _ => ⟨.inl rfl, Int.le_refl _, by simp⟩
  | y :: L, m, hm, h => by
    rw [List.foldl_cons]
    have hy := h y List.mem_cons_self
    have hL := fun x hx => h x (List.mem_cons_of_mem _ hx)
    by_cases hlt : m < 0 ∨ y < m
    · rw [if_pos hlt]
      obtain ⟨h1, h2, h3⟩ := lo_fold L y hy hL
      refine ⟨?_, by omega, fun x hx => ?_⟩
      · rcases h1 with h1 | h1
        · right; rw [h1]; exact List.mem_cons_self
        · right; exact List.mem_cons_of_mem _ h1
      · rcases List.mem_cons.1 hx with rfl | hx
        · exact h2
        · exact h3 x hx
    · rw [if_neg hlt]
      obtain ⟨h1, h2, h3⟩ := lo_fold L m hm hL
      refine ⟨?_, h2, fun x hx => ?_⟩
      · rcases h1 with h1 | h1
        · left; exact h1
        · right; exact List.mem_cons_of_mem _ h1
      · rcases List.mem_cons.1 hx with rfl | hx
        · omega
        · exact h3 x hx
theorem hi_fold : ∀ (L : List Int) (m : Int), (L.foldl max m = m ∨ L.foldl max m ∈ L) ∧ m ≤ L.foldl max m ∧ ∀ x ∈ L, x ≤ L.foldl max m
  | [], m => ⟨.inl rfl, Int.le_refl _, by simp⟩
  | y :: L, m => by
    rw [List.foldl_cons]
    obtain ⟨h1, h2, h3⟩ := hi_fold L (max m y)
    refine ⟨?_, by omega, fun x hx => ?_⟩
    · rcases h1 with h1 | h1
      · by_cases hmy : y ≤ m
        · left; rw [h1]; omega
        · right; rw [h1, show max m y = y by omega]; exact List.mem_cons_self
      · right; exact List.mem_cons_of_mem _ h1
    · rcases List.mem_cons.1 hx with rfl | hx
      · omega
      · exact h3 x hx
theorem loL_spec {L : List Int} (hne : L ≠ []) (h : ∀ x ∈ L, 0 ≤ x) : loL L ∈ L ∧ ∀ x ∈ L, loL L ≤ x := by
  cases L with
  | nil => exact absurd rfl hne
  | cons y L =>
    obtain ⟨h1, h2, h3⟩ := lo_fold L y (h y List.mem_cons_self) (fun x hx => h x (List.mem_cons_of_mem _ hx))
    have e : loL (y :: L) = L.foldl (fun m n => if m < 0 ∨ n < m then n else m) y := by simp [loL]
    rw [e]
    refine ⟨?_, fun x hx => ?_⟩
    · rcases h1 with h1 | h1
      · rw [h1]; exact List.mem_cons_self
      · exact List.mem_cons_of_mem _ h1
    · rcases List.mem_cons.1 hx with rfl | hx
      · exact h2
      · exact h3 x hx
theorem hiL_spec {L : List Int} (hne : L ≠ []) (h : ∀ x ∈ L, 0 ≤ x) : hiL L ∈ L ∧ ∀ x ∈ L, x ≤ hiL L := by
  obtain ⟨h1, h2, h3⟩ := hi_fold L (-1)
  refine ⟨?_, h3⟩
  rcases h1 with h1 | h1
  · cases L with
    | nil => exact absurd rfl hne
    | cons y L =>
      have := h3 y List.mem_cons_self
      have := h y List.mem_cons_self
      omega
  · exact h1
theorem loQ_spec (north : Int) (east : List Int) (a b : Nat) : ∀ (T : List At) (m : Int), (T.foldl (fun m f => min m (q2 north east a b f)) m = m ∨ ∃ f ∈ T, T.foldl (fun m f => min m (q2 north east a b f)) m = q2 north east a b f) ∧ T.foldl (fun m f => min m (q2 north east a b f)) m ≤ m ∧ ∀ f ∈ T, T.foldl (fun m f => min m (q2 north east a b f)) m ≤ q2 north east a b f
  | [], m => ⟨.inl rfl, Int.le_refl _, by simp⟩
  | g :: T, m => by
    rw [List.foldl_cons]
    obtain ⟨h1, h2, h3⟩ := loQ_spec north east a b T (min m (q2 north east a b g))
    refine ⟨?_, by omega, fun x hx => ?_⟩
    · rcases h1 with h1 | ⟨f, hf, h1⟩
      · by_cases hmy : m ≤ q2 north east a b g
        · left; rw [h1]; omega
        · right; exact ⟨g, List.mem_cons_self, by rw [h1]; omega⟩
      · right; exact ⟨f, List.mem_cons_of_mem _ hf, h1⟩
    · rcases List.mem_cons.1 hx with rfl | hx
      · omega
      · exact h3 x hx
theorem hiQ_spec (north : Int) (east : List Int) (a b : Nat) : ∀ (T : List At) (m : Int), (T.foldl (fun m f => max m (q2 north east a b f)) m = m ∨ ∃ f ∈ T, T.foldl (fun m f => max m (q2 north east a b f)) m = q2 north east a b f) ∧ m ≤ T.foldl (fun m f => max m (q2 north east a b f)) m ∧ ∀ f ∈ T, q2 north east a b f ≤ T.foldl (fun m f => max m (q2 north east a b f)) m
  | [], m => ⟨.inl rfl, Int.le_refl _, by simp⟩
  | g :: T, m => by
    rw [List.foldl_cons]
    obtain ⟨h1, h2, h3⟩ := hiQ_spec north east a b T (max m (q2 north east a b g))
    refine ⟨?_, by omega, fun x hx => ?_⟩
    · rcases h1 with h1 | ⟨f, hf, h1⟩
      · by_cases hmy : q2 north east a b g ≤ m
        · left; rw [h1]; omega
        · right; exact ⟨g, List.mem_cons_self, by rw [h1]; omega⟩
      · right; exact ⟨f, List.mem_cons_of_mem _ hf, h1⟩
    · rcases List.mem_cons.1 hx with rfl | hx
      · omega
      · exact h3 x hx
/-- both ends are the same if both lists have the same numbers -/
theorem ends_eq {north : Int} {east : List Int} {a b : Nat} {T : List At} {L : List Int} (hT : T ≠ []) (h : ∀ x, x ∈ L ↔ ∃ f ∈ T, q2 north east a b f = x) (h0 : ∀ x ∈ L, 0 ≤ x ∧ x ≤ 6400000160000000) : loL L = loQ north east a b T ∧ hiL L = hiQ north east a b T := by
  obtain ⟨f0, hf0⟩ := List.exists_mem_of_ne_nil T hT
  have hx0 : q2 north east a b f0 ∈ L := (h _).2 ⟨f0, hf0, rfl⟩
  have hne : L ≠ [] := List.ne_nil_of_mem hx0
  obtain ⟨l1, l2⟩ := loL_spec hne (fun x hx => (h0 x hx).1)
  obtain ⟨u1, u2⟩ := hiL_spec hne (fun x hx => (h0 x hx).1)
  obtain ⟨p1, p2, p3⟩ := loQ_spec north east a b T 9223372036854775807
  obtain ⟨r1, r2, r3⟩ := hiQ_spec north east a b T 0
  obtain ⟨fl, hfl, el⟩ := (h _).1 l1
  obtain ⟨fu, hfu, eu⟩ := (h _).1 u1
  have hb0 := h0 _ hx0
  have p30 := p3 _ hf0
  have r30 := r3 _ hf0
  have pl := p3 _ hfl
  have ru := r3 _ hfu
  unfold loQ hiQ
  constructor
  · rcases p1 with p1 | ⟨f, hf, p1⟩
    · omega
    · have := l2 _ ((h _).2 ⟨f, hf, rfl⟩)
      omega
  · rcases r1 with r1 | ⟨f, hf, r1⟩
    · have := u2 _ hx0
      have := (h0 _ u1).1
      omega
    · have := u2 _ ((h _).2 ⟨f, hf, rfl⟩)
      omega
section
variable (north wrong : Int) (cols lofts : Nat) (east : List Int) (svs : List Sv)
/-- two places that two lofts can have together -/
def okD (a b : Nat) (p q : Nat × Nat) : Bool := decide ((fewSum north cols east svs lofts : Int) - (lowC north east svs a (allP cols east.length) : Int) - (lowC north east svs b (allP cols east.length) : Int) + (cost north east svs a p : Int) + (cost north east svs b q : Int) ≤ wrong)
def rowD (a b : Nat) (p : Nat × Nat) (P : List (Nat × Nat)) : List Int := (P.filter (okD north wrong cols lofts east svs a b p)).map fun q => sqI north east p.1 p.2 q.1 q.2
def allD (a b : Nat) (P Q : List (Nat × Nat)) : List Int := P.flatMap fun p => rowD north wrong cols lofts east svs a b p Q
theorem allD_mem (a b : Nat) (P Q : List (Nat × Nat)) (x : Int) : x ∈ allD north wrong cols lofts east svs a b P Q ↔ ∃ p ∈ P, ∃ q ∈ Q, okD north wrong cols lofts east svs a b p q = true ∧ sqI north east p.1 p.2 q.1 q.2 = x := by
  simp [allD, rowD, List.mem_flatMap, List.mem_map, List.mem_filter, and_assoc]
theorem totW_two {a b : Nat} (hab : a ≠ b) (ha : a < lofts) (hb : b < lofts) (f : At) : totW north cols east svs lofts (namesOf [a, b]) f + (lowC north east svs a (allP cols east.length) + lowC north east svs b (allP cols east.length)) = fewSum north cols east svs lofts + (cost north east svs a (f a) + cost north east svs b (f b)) := by
  have hm : ∀ l, l ∈ namesOf [a, b] ↔ l ∈ [a, b] := fun l => ⟨namesOf_mem, namesOf_mem'⟩
  have hnd : [a, b].Nodup := by simp [hab]
  have hlt : ∀ l ∈ [a, b], l < lofts := by simp; exact ⟨ha, hb⟩
  have s1 := sumR_mem (fun l => lowC north east svs l (allP cols east.length)) lofts [a, b] hnd hlt
  have s2 := sumR_mem (fun l => cost north east svs l (f l)) lofts [a, b] hnd hlt
  have e1 : (([a, b].map fun l => lowC north east svs l (allP cols east.length)).sum) = lowC north east svs a (allP cols east.length) + lowC north east svs b (allP cols east.length) := by simp
  have e2 : (([a, b].map fun l => cost north east svs l (f l)).sum) = cost north east svs a (f a) + cost north east svs b (f b) := by simp
  rw [← e1, ← e2, ← s1, ← s2]
  unfold totW fewSum
  rw [← sum_add, ← sum_add]
  refine sum_congr _ fun l _ => ?_
  by_cases h : l ∈ [a, b]
  · rw [if_pos ((hm l).2 h), if_pos h, if_pos h]; omega
  · rw [if_neg (fun h' => h ((hm l).1 h')), if_neg h, if_neg h]
/-- the places of two lofts in truths -/
theorem pairs_iff {a b : Nat} (hab : a ≠ b) (ha : a < lofts) (hb : b < lofts) (hw : ¬ wrong < fewSum north cols east svs lofts) (x : Int) :
    x ∈ allD north wrong cols lofts east svs a b (allP cols east.length) (allP cols east.length) ↔ ∃ f ∈ truthsOf (spotsOf north cols east svs) [a, b] (wrong - fewSum north cols east svs lofts), q2 north east a b f = x := by
  rw [allD_mem]
  have hlt : ∀ l ∈ [a, b], l < lofts := by simp; exact ⟨ha, hb⟩
  constructor
  · rintro ⟨p, hp, q, hq, hok, rfl⟩
    refine ⟨fun l => if l = a then p else if l = b then q else (0, 0), ?_, ?_⟩
    · rw [truth_iff north cols east svs hlt hw]
      refine ⟨?_, ?_, ?_⟩
      · intro l hl
        rcases List.mem_cons.1 hl with rfl | hl
        · simpa using hp
        · have : l = b := by simpa using hl
          subst this
          simpa [Ne.symm hab] using hq
      · intro l hl
        simp at hl
        simp [hl.1, hl.2]
      · have h := totW_two north cols lofts east svs hab ha hb (fun l => if l = a then p else if l = b then q else (0, 0))
        simp [Ne.symm hab] at h
        unfold okD at hok
        simp at hok
        omega
    · unfold q2
      simp [Ne.symm hab]
  · rintro ⟨f, hf, rfl⟩
    rw [truth_iff north cols east svs hlt hw] at hf
    obtain ⟨h1, _, h3⟩ := hf
    refine ⟨f a, h1 a (by simp), f b, h1 b (by simp), ?_, rfl⟩
    have h := totW_two north cols lofts east svs hab ha hb f
    unfold okD
    simp
    omega
end
end Go.Proofs.Ytpjfdfddcnocpaa
