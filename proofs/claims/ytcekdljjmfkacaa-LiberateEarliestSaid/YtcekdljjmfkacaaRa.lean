import Derived.Test.YtcekdljjmfkacaaQk
set_option linter.unusedSimpArgs false
set_option linter.unusedVariables false
namespace Go.Proofs.Ytcekdljjmfkacaa
open Go.RowKit Go.Shelf
/-- all that is in a is in b -/
def Sk.le (a b : Sk) : Prop := (b.wl ≤ a.wl ∧ a.wh ≤ b.wh) ∧ (b.sl ≤ a.sl ∧ a.sh ≤ b.sh) ∧ b.hl ≤ a.hl ∧ a.hh ≤ b.hh
theorem Sk.le_rf (a : Sk) : a.le a := ⟨⟨Int.le_refl _, Int.le_refl _⟩, ⟨Int.le_refl _, Int.le_refl _⟩, Int.le_refl _, Int.le_refl _⟩
theorem Sk.le_anti {a b : Sk} (h : a.le b) (h' : b.le a) : a = b := by
  obtain ⟨a1, a2, a3, a4, a5, a6⟩ := a
  obtain ⟨b1, b2, b3, b4, b5, b6⟩ := b
  unfold Sk.le at h h'
  simp only at h h'
  have e1 : a1 = b1 := by omega
  have e2 : a2 = b2 := by omega
  have e3 : a3 = b3 := by omega
  have e4 : a4 = b4 := by omega
  have e5 : a5 = b5 := by omega
  have e6 : a6 = b6 := by omega
  subst e1 e2 e3 e4 e5 e6
  rfl
theorem Sk.le_tr {a b c : Sk} (h : a.le b) (h' : b.le c) : a.le c := by
  unfold Sk.le at *
  omega
theorem Sk.both_le {a b : Sk} : (a.both b).le a ∧ (a.both b).le b := by
  unfold Sk.le Sk.both
  simp only
  omega
theorem Sk.le_both {s a b : Sk} (h : s.le a) (h' : s.le b) : s.le (a.both b) := by
  unfold Sk.le Sk.both at *
  simp only
  omega
theorem known_any (f : Nat → Nat → Int) (x y h : Int) (k : Nat) : (known f x y h k).le skAny := by
  induction k with
  | zero => exact Sk.le_rf _
  | succ k ih =>
    cases hi : inFr (f k) x y h
    · rw [known_no hi]; exact ih
    · rw [known_yes hi]; exact Sk.le_tr Sk.both_le.1 ih
theorem known_le {f : Nat → Nat → Int} {x y h : Int} {k i : Nat} (hi : i < k) (hf : inFr (f i) x y h = true) : (known f x y h k).le (skF (f i)) := by
  induction k with
  | zero => omega
  | succ k ih =>
    by_cases hik : i = k
    · subst hik
      rw [known_yes hf]; exact Sk.both_le.2
    · have := ih (by omega)
      cases hk : inFr (f k) x y h
      · rw [known_no hk]; exact this
      · rw [known_yes hk]; exact Sk.le_tr Sk.both_le.1 this
theorem le_known {f : Nat → Nat → Int} {x y h : Int} {k : Nat} {s : Sk} (ha : s.le skAny) (hf : ∀ i, i < k → inFr (f i) x y h = true → s.le (skF (f i))) : s.le (known f x y h k) := by
  induction k with
  | zero => exact ha
  | succ k ih =>
    have := ih fun i hi => hf i (by omega)
    cases hk : inFr (f k) x y h
    · rw [known_no hk]; exact this
    · rw [known_yes hk]; exact Sk.le_both this (hf k (by omega) hk)
/-- fronts that are among others leave more -/
theorem known_sub {f f' : Nat → Nat → Int} {x y h : Int} {k k' : Nat} (hs : ∀ i, i < k → ∃ j, j < k' ∧ f' j = f i) : (known f' x y h k').le (known f x y h k) := by
  refine le_known (known_any _ _ _ _ _) fun i hi hf => ?_
  obtain ⟨j, hj, e⟩ := hs i hi
  rw [← e] at hf ⊢
  exact known_le hj hf
theorem skIn_iff {s l : Sk} : skIn s l = true ↔ s.le l := by
  unfold skIn skEq Sk.both Sk.le
  simp only [Bool.and_eq_true, beq_iff_eq]
  omega
theorem skNone_iff {s : Sk} : skNone s = true ↔ (s.wh < s.wl ∨ s.sh < s.sl ∨ s.hh < s.hl) := by
  unfold skNone
  simp only [Bool.or_eq_true, decide_eq_true_eq]
theorem skIn_mono {s s' l l' : Sk} (h : s'.le s) (hl : l.le l') (hi : skIn s l = true) : skIn s' l' = true := skIn_iff.2 (Sk.le_tr (Sk.le_tr h (skIn_iff.1 hi)) hl)
theorem skOut_mono {s s' l l' : Sk} (h : s'.le s) (hl : l'.le l) (hi : skOut s l = true) : skOut s' l' = true := by
  unfold skOut at *
  rw [skNone_iff] at *
  unfold Sk.both Sk.le at *
  simp only at *
  omega
theorem skOut_not {s l : Sk} (hn : skNone s = false) (h : skOut s l = true) : skIn s l = false := by
  cases hi : skIn s l
  · rfl
  · rw [skIn_iff] at hi
    unfold skOut at h
    rw [skNone_iff] at h
    have : ¬ (s.wh < s.wl ∨ s.sh < s.sl ∨ s.hh < s.hl) := fun h' => by rw [skNone_iff.2 h'] at hn; cases hn
    unfold Sk.both Sk.le at *
    simp only at *
    omega
section
variable {S S' : Int → Int → Int → Option Sk} {lim lim' : Sk} {st : Nat → Nat → Nat} {mi H ns : Nat}
theorem badT_none_iff {k : Nat} : badT S lim st mi H k = none ↔ ∀ t ∈ hrsL (mi + st k 2) (mi + st k 3) H, insB S lim st k t = true := by
  unfold badT
  rw [List.find?_eq_none]
  simp
theorem blkR_none_iff : blkR S lim st mi H ns = none ↔ ∀ k, k < ns → ∀ t ∈ hrsL (mi + st k 2) (mi + st k 3) H, insB S lim st k t = true := by
  constructor
  · intro h k hk
    unfold blkR at h
    rw [List.findSome?_eq_none_iff] at h
    have := h k (List.mem_range.2 hk)
    rw [Option.map_eq_none_iff] at this
    exact badT_none_iff.1 this
  · intro h
    exact blkR_none fun k hk => badT_none_iff.2 (h k hk)
/-- if each weather that is inside is so in the other case, nothing becomes blocked -/
theorem blkR_mono (hi : ∀ k, k < ns → ∀ t ∈ hrsL (mi + st k 2) (mi + st k 3) H, insB S lim st k t = true → insB S' lim' st k t = true) (h : blkR S lim st mi H ns = none) : blkR S' lim' st mi H ns = none :=
  blkR_none_iff.2 fun k hk t ht => hi k hk t ht (blkR_none_iff.1 h k hk t ht)
theorem hrsL_ne {lo hi : Nat} (h : lo ≤ hi) (H : Nat) : lo / 60 ∈ hrsL lo hi H := by
  unfold hrsL hrsN
  have : lo / 60 ≤ hi / 60 := Nat.div_le_div_right h
  refine List.mem_map.2 ⟨0, List.mem_range.2 ?_, rfl⟩
  split
  · omega
  · split <;> omega
theorem mem_hrsL {lo hi H t : Nat} (h1 : lo / 60 ≤ t) (h2 : t ≤ hi / 60) (h3 : t ≤ H) : t ∈ hrsL lo hi H := by
  unfold hrsL hrsN
  refine List.mem_map.2 ⟨t - lo / 60, List.mem_range.2 ?_, by omega⟩
  split
  · omega
  · split <;> omega
theorem safeN_one : safeN S lim st mi H ns = 1 ↔ blkR S lim st mi H ns = none := by
  unfold safeN
  cases h : blkR S lim st mi H ns with
  | none => simp
  | some p =>
    simp only [Option.isSome_some, Bool.true_eq_false, if_false]
    split <;> simp
theorem safeN_two : safeN S lim st mi H ns = 2 ↔ blkR S lim st mi H ns ≠ none ∧ ∃ k, k < ns ∧ outB S lim st mi H k = true := by
  unfold safeN
  have ha : anyU (outB S lim st mi H) ns = true ↔ ∃ k, k < ns ∧ outB S lim st mi H k = true := by
    unfold anyU
    rw [List.any_eq_true]
    exact ⟨fun ⟨k, a, b⟩ => ⟨k, List.mem_range.1 a, b⟩, fun ⟨k, a, b⟩ => ⟨k, List.mem_range.2 a, b⟩⟩
  cases h : blkR S lim st mi H ns with
  | none => simp
  | some p =>
    simp only [Option.isSome_some, Bool.true_eq_false, if_false]
    rw [← ha]
    split
    · rename_i hh; simp [hh]
    · rename_i hh; simp [hh]
theorem safeN_cases : safeN S lim st mi H ns = 1 ∨ safeN S lim st mi H ns = 2 ∨ safeN S lim st mi H ns = 3 := by
  unfold safeN
  split
  · exact .inl rfl
  · split
    · exact .inr (.inl rfl)
    · exact .inr (.inr rfl)
end
end Go.Proofs.Ytcekdljjmfkacaa
