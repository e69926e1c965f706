import Derived.Test.YtcekdljjmfkacaaGreatXi
import Derived.Test.YtcekdljjmfkacaaGreatXh
import Derived.Test.YtcekdljjmfkacaaGreatMd
import Derived.Test.YtcekdljjmfkacaaGreatXc
import Derived.Test.YtcekdljjmfkacaaGreatXf
set_option linter.unusedSimpArgs false
set_option linter.unusedVariables false
namespace Go.Proofs.YtcekdljjmfkacaaGreat
open Go.RowKit Go.Shelf
theorem rnd0_zero : rnd 0 0 = 0 := by decide +kernel
theorem sqI_self (north : Int) (east : List Int) (a b : Int) : sqI north east a b a b = 0 := by
  simp [sqI]
/-- the reference and the program count the same latest minute -/
theorem hiR_eq {r : Rl} (h : r.Nums) {j : Nat} (hj : j < r.n) : hiR r j = r.st j (r.ns j - 1) 3 := by
  have hns := Rl.ns_le h hj
  have hl : lenS r.north r.east (r.P j) (r.ns j - 1) = 0 := by
    unfold lenS
    rw [show min (r.ns j - 1 + 1) ((r.P j).length - 1) = r.ns j - 1 by show min (r.ns j - 1 + 1) (r.ns j - 1) = _; omega, sqI_self]
    exact rnd0_zero
  simp only [Rl.st, if_pos (show r.ns j - 1 < r.ns j by omega)]
  unfold hiR hiT
  rw [hl]
  rfl
theorem anyU_or (p q : Nat → Bool) (n : Nat) : anyU (fun j => p j || q j) n = (anyU p n || anyU q n) := by
  unfold anyU
  induction n with
  | zero => rfl
  | succ n ih =>
    rw [List.range_succ]
    simp only [List.any_append, List.any_cons, List.any_nil, Bool.or_false] at ih ⊢
    rw [ih]
    cases p n <;> cases q n <;> cases (List.range n).any p <;> cases (List.range n).any q <;> rfl
theorem anyU_congr {p q : Nat → Bool} {n : Nat} (h : ∀ j, j < n → p j = q j) : anyU p n = anyU q n := by
  unfold anyU
  rw [Bool.eq_iff_iff, List.any_eq_true, List.any_eq_true]
  exact ⟨fun ⟨x, hx, hp⟩ => ⟨x, hx, by rw [← h x (List.mem_range.1 hx)]; exact hp⟩, fun ⟨x, hx, hp⟩ => ⟨x, hx, by rw [h x (List.mem_range.1 hx)]; exact hp⟩⟩
/-- the convoy may be set free just if it is light at the end and no home is blocked -/
theorem flyB_eq {r : Rl} (h : r.Nums) (m : Nat) : flyB r m = (lightB r m && !anyU (fun j => (r.blk m j).isSome) r.n) := by
  unfold flyB lightB
  rw [← Bool.not_or, ← anyU_or]
  congr 1
  refine anyU_congr fun j hj => ?_
  unfold fly1
  rw [hiR_eq h hj, Bool.not_and, Bool.not_not]
  rfl
/-- Blocks is empty just if no home is blocked -/
theorem bks_len0 (l : Nat → Option (Nat × Nat)) (n : Nat) : (decide ((bks l n).length = 0)) = !anyU (fun j => (l j).isSome) n := by
  induction n with
  | zero => rfl
  | succ n ih =>
    have e : anyU (fun j => (l j).isSome) (n + 1) = (anyU (fun j => (l j).isSome) n || (l n).isSome) := by
      unfold anyU
      rw [List.range_succ]
      simp
    rw [e]
    cases h : l n with
    | none => rw [bks_none h, ih]; simp
    | some p => rw [bks_some h]; simp
/-- Blocks names a home just if it is blocked -/
theorem bks_any (l : Nat → Option (Nat × Nat)) (n h : Nat) : (bks l n).any (fun b => b.1 == h) = (decide (h < n) && (l h).isSome) := by
  induction n with
  | zero => simp [bks]
  | succ n ih =>
    cases hl : l n with
    | none =>
      rw [bks_none hl, ih]
      rcases Nat.lt_trichotomy h n with c | c | c
      · simp [c, Nat.lt_succ_of_lt c]
      · subst c; simp [hl]
      · simp [show ¬ h < n by omega, show ¬ h < n + 1 by omega]
    | some p =>
      rw [bks_some hl, List.any_append, ih]
      rcases Nat.lt_trichotomy h n with c | c | c
      · simp [c, Nat.lt_succ_of_lt c, show ¬ n = h by omega]
      · subst c; simp [hl]
      · simp [show ¬ h < n by omega, show ¬ h < n + 1 by omega, show ¬ n = h by omega]
end Go.Proofs.YtcekdljjmfkacaaGreat
set_option linter.unusedSimpArgs false
set_option linter.unusedVariables false
namespace Go.Proofs.YtcekdljjmfkacaaGreat
open Go.RowKit Go.Shelf
/-- all that is in a is in b -/
def Sk.le (a b : Sk) : Prop := (b.wl ≤ a.wl ∧ a.wh ≤ b.wh) ∧ (b.sl ≤ a.sl ∧ a.sh ≤ b.sh) ∧ b.hl ≤ a.hl ∧ a.hh ≤ b.hh
theorem Sk.le_rf (a : Sk) : a.le a := ⟨⟨Int.le_refl _, Int.le_refl _⟩, ⟨Int.le_refl _, Int.le_refl _⟩, Int.le_refl _, Int.le_refl _⟩
theorem Sk.le_anti {a b : Sk} (h : a.le b) (h' : b.le a) : a = b := by
  obtain ⟨a1, a2, a3, a4, a5, a6⟩ := a
  obtain ⟨b1, b2, b3, b4, b5, b6⟩ := b
  unfold Sk.le at h h'
  simp only at h h'
  have e1 : a1 = b1 := by omega
  have e2 : a2 = b2 := by omega
  have e3 : a3 = b3 := by omega
  have e4 : a4 = b4 := by omega
  have e5 : a5 = b5 := by omega
  have e6 : a6 = b6 := by omega
  subst e1 e2 e3 e4 e5 e6
  rfl
theorem Sk.le_tr {a b c : Sk} (h : a.le b) (h' : b.le c) : a.le c := by
  unfold Sk.le at *
  omega
theorem Sk.both_le {a b : Sk} : (a.both b).le a ∧ (a.both b).le b := by
  unfold Sk.le Sk.both
  simp only
  omega
theorem Sk.le_both {s a b : Sk} (h : s.le a) (h' : s.le b) : s.le (a.both b) := by
  unfold Sk.le Sk.both at *
  simp only
  omega
theorem known_any (f : Nat → Nat → Int) (x y h : Int) (k : Nat) : (known f x y h k).le skAny := by
  induction k with
  | zero => exact Sk.le_rf _
  | succ k ih =>
    cases hi : inFr (f k) x y h
    · rw [known_no hi]; exact ih
    · rw [known_yes hi]; exact Sk.le_tr Sk.both_le.1 ih
theorem known_le {f : Nat → Nat → Int} {x y h : Int} {k i : Nat} (hi : i < k) (hf : inFr (f i) x y h = true) : (known f x y h k).le (skF (f i)) := by
  induction k with
  | zero => omega
  | succ k ih =>
    by_cases hik : i = k
    · subst hik
      rw [known_yes hf]; exact Sk.both_le.2
    · have := ih (by omega)
      cases hk : inFr (f k) x y h
      · rw [known_no hk]; exact this
      · rw [known_yes hk]; exact Sk.le_tr Sk.both_le.1 this
theorem le_known {f : Nat → Nat → Int} {x y h : Int} {k : Nat} {s : Sk} (ha : s.le skAny) (hf : ∀ i, i < k → inFr (f i) x y h = true → s.le (skF (f i))) : s.le (known f x y h k) := by
  induction k with
  | zero => exact ha
  | succ k ih =>
    have := ih fun i hi => hf i (by omega)
    cases hk : inFr (f k) x y h
    · rw [known_no hk]; exact this
    · rw [known_yes hk]; exact Sk.le_both this (hf k (by omega) hk)
/-- fronts that are among others leave more -/
theorem known_sub {f f' : Nat → Nat → Int} {x y h : Int} {k k' : Nat} (hs : ∀ i, i < k → ∃ j, j < k' ∧ f' j = f i) : (known f' x y h k').le (known f x y h k) := by
  refine le_known (known_any _ _ _ _ _) fun i hi hf => ?_
  obtain ⟨j, hj, e⟩ := hs i hi
  rw [← e] at hf ⊢
  exact known_le hj hf
theorem skIn_iff {s l : Sk} : skIn s l = true ↔ s.le l := by
  unfold skIn skEq Sk.both Sk.le
  simp only [Bool.and_eq_true, beq_iff_eq]
  omega
theorem skNone_iff {s : Sk} : skNone s = true ↔ (s.wh < s.wl ∨ s.sh < s.sl ∨ s.hh < s.hl) := by
  unfold skNone
  simp only [Bool.or_eq_true, decide_eq_true_eq]
theorem skIn_mono {s s' l l' : Sk} (h : s'.le s) (hl : l.le l') (hi : skIn s l = true) : skIn s' l' = true := skIn_iff.2 (Sk.le_tr (Sk.le_tr h (skIn_iff.1 hi)) hl)
theorem skOut_mono {s s' l l' : Sk} (h : s'.le s) (hl : l'.le l) (hi : skOut s l = true) : skOut s' l' = true := by
  unfold skOut at *
  rw [skNone_iff] at *
  unfold Sk.both Sk.le at *
  simp only at *
  omega
theorem skOut_not {s l : Sk} (hn : skNone s = false) (h : skOut s l = true) : skIn s l = false := by
  cases hi : skIn s l
  · rfl
  · rw [skIn_iff] at hi
    unfold skOut at h
    rw [skNone_iff] at h
    have : ¬ (s.wh < s.wl ∨ s.sh < s.sl ∨ s.hh < s.hl) := fun h' => by rw [skNone_iff.2 h'] at hn; cases hn
    unfold Sk.both Sk.le at *
    simp only at *
    omega
section
variable {S S' : Int → Int → Int → Option Sk} {lim lim' : Sk} {st : Nat → Nat → Nat} {mi H ns : Nat}
theorem badT_none_iff {k : Nat} : badT S lim st mi H k = none ↔ ∀ t ∈ hrsL (mi + st k 2) (mi + st k 3) H, insB S lim st k t = true := by
  unfold badT
  rw [List.find?_eq_none]
  simp
theorem blkR_none_iff : blkR S lim st mi H ns = none ↔ ∀ k, k < ns → ∀ t ∈ hrsL (mi + st k 2) (mi + st k 3) H, insB S lim st k t = true := by
  constructor
  · intro h k hk
    unfold blkR at h
    rw [List.findSome?_eq_none_iff] at h
    have := h k (List.mem_range.2 hk)
    rw [Option.map_eq_none_iff] at this
    exact badT_none_iff.1 this
  · intro h
    exact blkR_none fun k hk => badT_none_iff.2 (h k hk)
/-- if each weather that is inside is so in the other case, nothing becomes blocked -/
theorem blkR_mono (hi : ∀ k, k < ns → ∀ t ∈ hrsL (mi + st k 2) (mi + st k 3) H, insB S lim st k t = true → insB S' lim' st k t = true) (h : blkR S lim st mi H ns = none) : blkR S' lim' st mi H ns = none :=
  blkR_none_iff.2 fun k hk t ht => hi k hk t ht (blkR_none_iff.1 h k hk t ht)
theorem hrsL_ne {lo hi : Nat} (h : lo ≤ hi) (H : Nat) : lo / 60 ∈ hrsL lo hi H := by
  unfold hrsL hrsN
  have : lo / 60 ≤ hi / 60 := Nat.div_le_div_right h
  refine List.mem_map.2 ⟨0, List.mem_range.2 ?_, rfl⟩
  split
  · omega
  · split <;> omega
theorem mem_hrsL {lo hi H t : Nat} (h1 : lo / 60 ≤ t) (h2 : t ≤ hi / 60) (h3 : t ≤ H) : t ∈ hrsL lo hi H := by
  unfold hrsL hrsN
  refine List.mem_map.2 ⟨t - lo / 60, List.mem_range.2 ?_, by omega⟩
  split
  · omega
  · split <;> omega
theorem safeN_one : safeN S lim st mi H ns = 1 ↔ blkR S lim st mi H ns = none := by
  unfold safeN
  cases h : blkR S lim st mi H ns with
  | none => simp
  | some p =>
    simp only [Option.isSome_some, Bool.true_eq_false, if_false]
    split <;> simp
theorem safeN_two : safeN S lim st mi H ns = 2 ↔ blkR S lim st mi H ns ≠ none ∧ ∃ k, k < ns ∧ outB S lim st mi H k = true := by
  unfold safeN
  have ha : anyU (outB S lim st mi H) ns = true ↔ ∃ k, k < ns ∧ outB S lim st mi H k = true := by
    unfold anyU
    rw [List.any_eq_true]
    exact ⟨fun ⟨k, a, b⟩ => ⟨k, List.mem_range.1 a, b⟩, fun ⟨k, a, b⟩ => ⟨k, List.mem_range.2 a, b⟩⟩
  cases h : blkR S lim st mi H ns with
  | none => simp
  | some p =>
    simp only [Option.isSome_some, Bool.true_eq_false, if_false]
    rw [← ha]
    split
    · rename_i hh; simp [hh]
    · rename_i hh; simp [hh]
theorem safeN_cases : safeN S lim st mi H ns = 1 ∨ safeN S lim st mi H ns = 2 ∨ safeN S lim st mi H ns = 3 := by
  unfold safeN
  split
  · exact .inl rfl
  · split
    · exact .inr (.inl rfl)
    · exact .inr (.inr rfl)
end
end Go.Proofs.YtcekdljjmfkacaaGreat
set_option linter.unusedSimpArgs false
set_option linter.unusedVariables false
namespace Go.Proofs.YtcekdljjmfkacaaGreat
open Go.RowKit Go.Shelf
theorem skyB_iff {s : Sk} (h : s.le skAny) : skyB s = true ↔ skNone s = false := by
  have h2 := h
  unfold Sk.le skAny at h2
  have hn := @skNone_iff s
  constructor
  · intro e
    cases hh : skNone s
    · rfl
    · have := hn.1 hh
      unfold skyB spanB at e
      simp only [Bool.and_eq_true, decide_eq_true_eq] at e
      omega
  · intro e
    have : ¬ (s.wh < s.wl ∨ s.sh < s.sl ∨ s.hh < s.hl) := fun h => by
      have := hn.2 h
      rw [e] at this
      cases this
    unfold skyB spanB
    simp only [Bool.and_eq_true, decide_eq_true_eq]
    dsimp only at h2
    omega
section
variable {f : Nat → Nat → Int} {k cols el hours : Nat}
/-- the reference's contradiction is the program's -/
theorem good_sky : SkyTo f k cols el hours 0 0 ↔ GoodTo f k cols el hours el 0 0 := by
  constructor
  · intro h x y t s hs
    unfold SD at hs
    split at hs
    · rename_i hd
      unfold doneB at hd
      simp only [decide_eq_true_eq] at hd
      cases hs
      have := h t.toNat y.toNat x.toNat (by omega) (by omega) (.inl (by omega))
      rw [Int.toNat_of_nonneg (by omega), Int.toNat_of_nonneg (by omega), Int.toNat_of_nonneg (by omega)] at this
      exact (skyB_iff (known_any f x y t k)).1 this
    · cases hs
  · intro h t y x hy hx ht
    refine (skyB_iff (known_any f x y t k)).2 (h x y t _ ?_)
    unfold SD doneB
    rw [if_pos (by simp only [decide_eq_true_eq]; omega)]
theorem known_late {c : Int} {e : Nat} {hh : Int} (hf : ∀ i, i < k → FrontOk c e hh (f i)) {x y t : Int} (ht : hh ≤ t) : known f x y t k = skAny := by
  induction k with
  | zero => rfl
  | succ k ih =>
    rw [known_no, ih fun i hi => hf i (by omega)]
    have := (hf k (by omega)).h1
    unfold spanB at this
    simp only [Bool.and_eq_true, decide_eq_true_eq] at this
    unfold inFr isInB
    rw [decide_eq_false (show ¬ t ≤ f k 1 by omega)]
    simp
theorem known_SD {c : Int} {e : Nat} (hf : ∀ i, i < k → FrontOk c e hours (f i)) {x y t : Nat} (hx : x < cols) (hy : y < el) : (SD f k cols el hours el 0 0 x y t).getD skAny = known f x y t k := by
  unfold SD doneB
  by_cases ht : t < hours
  · rw [if_pos (by simp only [decide_eq_true_eq]; omega)]
    rfl
  · rw [if_neg (by simp only [decide_eq_true_eq]; omega), known_late hf (by omega)]
    rfl
end
theorem in_lim {s : Sk} (h : s.le skAny) (lw lg lh : Int) : skIn s (skLim lw lg lh) = lInB lw lg lh s := by
  rw [Bool.eq_iff_iff, skIn_iff]
  unfold Sk.le skAny at h
  unfold Sk.le skLim lInB
  simp only [Bool.and_eq_true, decide_eq_true_eq]
  dsimp only at h ⊢
  omega
theorem out_lim {s : Sk} (h : s.le skAny) (hn : skNone s = false) {lw lg lh : Int} (h1 : 0 ≤ lw) (h2 : lg ≤ 999) (h3 : 0 ≤ lh) : skOut s (skLim lw lg lh) = lOutB lw lg lh s := by
  have hn' : ¬ (s.wh < s.wl ∨ s.sh < s.sl ∨ s.hh < s.hl) := fun h => by
    have := skNone_iff.2 h
    rw [hn] at this
    cases this
  rw [Bool.eq_iff_iff]
  unfold skOut
  rw [skNone_iff]
  unfold Sk.le skAny at h
  unfold Sk.both skLim lOutB
  simp only [Bool.or_eq_true, decide_eq_true_eq]
  dsimp only at h ⊢
  omega
theorem mem_hrs {lo hi H t : Nat} : t ∈ hrsL lo hi H ↔ lo / 60 ≤ t ∧ t ≤ hi / 60 ∧ (t ≤ H ∨ t = lo / 60) := by
  unfold hrsL hrsN
  simp only [List.mem_map, List.mem_range]
  constructor
  · rintro ⟨j, hj, rfl⟩
    split at hj
    · omega
    · split at hj <;> omega
  · rintro ⟨h1, h2, h3⟩
    refine ⟨t - lo / 60, ?_, by omega⟩
    rw [if_neg (by omega)]
    split <;> omega
/-- what holds in the hours that the program looks at holds in all of them -/
theorem all_hrs {lo hi H : Nat} {P : Nat → Bool} (hP : ∀ t u, H ≤ t → H ≤ u → P t = P u) : (hrsL lo hi H).all P = true ↔ ∀ t, lo / 60 ≤ t → t ≤ hi / 60 → P t = true := by
  rw [List.all_eq_true]
  constructor
  · intro h t h1 h2
    by_cases h3 : t ≤ H
    · exact h t (mem_hrs.2 ⟨h1, h2, .inl h3⟩)
    · by_cases h4 : lo / 60 ≤ H
      · rw [hP t H (by omega) (Nat.le_refl _)]
        exact h H (mem_hrs.2 ⟨h4, by omega, .inl (Nat.le_refl _)⟩)
      · rw [hP t (lo / 60) (by omega) (by omega)]
        exact h _ (mem_hrs.2 ⟨Nat.le_refl _, by omega, .inr rfl⟩)
  · intro h t ht
    obtain ⟨h1, h2, _⟩ := mem_hrs.1 ht
    exact h t h1 h2
theorem find_map_first {g : Nat → Nat} {n : Nat} {p : Nat → Bool} {t : Nat} (h : ((List.range n).map g).find? p = some t) : ∃ j, j < n ∧ t = g j ∧ p t = true ∧ ∀ i, i < j → p (g i) = false := by
  obtain ⟨hp, l1, l2, heq, hno⟩ := List.find?_eq_some_iff_append.1 h
  have hlen : l1.length < n := by
    have := congrArg List.length heq
    simp at this
    omega
  refine ⟨l1.length, hlen, ?_, hp, fun i hi => ?_⟩
  · have := congrArg (fun l : List Nat => l[l1.length]?) heq
    simp [hlen] at this
    exact this.symm
  · have e : (l1 ++ t :: l2)[i]? = some (g i) := by
      rw [← heq]
      simp [show i < n by omega]
    rw [List.getElem?_append_left hi] at e
    have := hno _ (List.mem_of_getElem? e)
    simpa using this
/-- the first minute of the first hour that is bad is the first minute that is bad -/
theorem first_minute {lo hi H t : Nat} {p : Nat → Bool} (h : (hrsL lo hi H).find? p = some t) :
    lo ≤ max lo (t * 60) ∧ max lo (t * 60) ≤ max lo hi ∧ max lo (t * 60) / 60 = t ∧ p t = true ∧ ∀ m, lo ≤ m → m < max lo (t * 60) → p (m / 60) = false := by
  have hm := mem_hrs.1 (List.mem_of_find?_eq_some h)
  obtain ⟨j, hj, rfl, hp, hno⟩ := find_map_first h
  refine ⟨by omega, by omega, by omega, hp, fun m h1 h2 => ?_⟩
  have := hno (m / 60 - lo / 60) (by omega)
  rwa [show lo / 60 + (m / 60 - lo / 60) = m / 60 by omega] at this
end Go.Proofs.YtcekdljjmfkacaaGreat
set_option linter.unusedSimpArgs false
set_option linter.unusedVariables false
namespace Go.Proofs.YtcekdljjmfkacaaGreat
open Go.RowKit Go.Shelf
/-- a test at all numbers from a on, n of them -/
def hB (P : Nat → Bool) (a n : Nat) : Bool := (List.range n).all fun i => P (a + i)
theorem hB_iff {P : Nat → Bool} {a n : Nat} : hB P a n = true ↔ ∀ t, a ≤ t → t < a + n → P t = true := by
  unfold hB
  rw [List.all_eq_true]
  constructor
  · intro h t h1 h2
    have := h (t - a) (List.mem_range.2 (by omega))
    rwa [show a + (t - a) = t by omega] at this
  · intro h i hi
    exact h (a + i) (by omega) (by have := List.mem_range.1 hi; omega)
theorem hB_succ (P : Nat → Bool) (a n : Nat) : hB P a (n + 1) = (hB P a n && P (a + n)) := by
  unfold hB
  rw [List.range_succ]
  simp
section
variable {r : Rl} {w : World} {i k : Nat}
theorem st_in (h : r.Nums) (hi : i < r.n) (hk : k < r.ns i) : r.st i k 0 < r.cols ∧ r.st i k 1 < r.east.length := by
  have := Rl.P_in h hi hk
  simp only [Rl.st, if_pos hk]
  exact this
theorem plo_eq (hk : k < r.ns i) : farS (r.ln i) k / r.sh = r.st i k 2 := by
  simp only [Rl.st, if_pos hk]
  rfl
theorem phi_eq (h : r.Nums) (hi : i < r.n) (hk : k < r.ns i) : (farS (r.ln i) (min (k + 1) (r.ns i - 1)) + r.sl - 1) / r.sl = r.st i k 3 := by
  rcases Nat.lt_or_ge (k + 1) (r.ns i) with h1 | h1
  · rw [show min (k + 1) (r.ns i - 1) = k + 1 by omega, farS_succ]
    simp only [Rl.st, if_pos hk]
    rfl
  · obtain rfl : k = r.ns i - 1 := by omega
    rw [show min (r.ns i - 1 + 1) (r.ns i - 1) = r.ns i - 1 by omega]
    exact hiR_eq h hi
theorem st23 (h : r.Nums) (hk : k < r.ns i) : r.st i k 2 ≤ r.st i k 3 := by
  have hs := h.speed
  simp only [Rl.st, if_pos hk]
  unfold loT hiT
  refine Nat.le_trans (Nat.div_le_div_left hs.2.1 (by omega)) (Nat.div_le_div_right (by omega))
/-- the weather is surely inside at a step in an hour, as the reference tells -/
def okT (r : Rl) (i k t : Nat) : Bool := lInB r.lw r.lg r.lh (known r.f (r.st i k 0 : Nat) (r.st i k 1 : Nat) (t : Nat) r.k)
def ouT (r : Rl) (i k t : Nat) : Bool := lOutB r.lw r.lg r.lh (known r.f (r.st i k 0 : Nat) (r.st i k 1 : Nat) (t : Nat) r.k)
theorem S_known (h : r.Ok w) (hi : i < r.n) (hk : k < r.ns i) (t : Nat) : (r.S (r.st i k 0 : Nat) (r.st i k 1 : Nat) (t : Nat)).getD skAny = known r.f (r.st i k 0 : Nat) (r.st i k 1 : Nat) (t : Nat) r.k := by
  have hs := st_in h.nums hi hk
  exact known_SD h.hfo hs.1 hs.2
theorem insB_ok (h : r.Ok w) (hi : i < r.n) (hk : k < r.ns i) (t : Nat) : insB r.S r.lim (r.st i) k t = okT r i k t := by
  unfold insB okT
  rw [S_known h hi hk]
  exact in_lim (known_any _ _ _ _ _) _ _ _
theorem known_const (h : r.Ok w) {t u : Nat} (ht : r.hours ≤ t) (hu : r.hours ≤ u) (x y : Int) : known r.f x y t r.k = known r.f x y u r.k := by
  rw [known_late h.hfo (by omega), known_late h.hfo (by omega)]
theorem ok_const (h : r.Ok w) {t u : Nat} (ht : r.hours ≤ t) (hu : r.hours ≤ u) : okT r i k t = okT r i k u := by
  unfold okT
  rw [known_const h ht hu]
theorem ou_const (h : r.Ok w) {t u : Nat} (ht : r.hours ≤ t) (hu : r.hours ≤ u) : ouT r i k t = ouT r i k u := by
  unfold ouT
  rw [known_const h ht hu]
theorem max_div (lo t : Nat) (h : lo / 60 ≤ t) : max lo (t * 60) / 60 = t := by
  rcases Nat.le_total lo (t * 60) with h1 | h1
  · rw [Nat.max_eq_right h1]; omega
  · rw [Nat.max_eq_left h1]; omega
theorem max_le_hi {lo hi t : Nat} (h : lo ≤ hi) (h2 : t ≤ hi / 60) : max lo (t * 60) ≤ hi := Nat.max_le.2 ⟨h, by omega⟩
theorem bad_noneR (h : r.Ok w) (hi : i < r.n) (hk : k < r.ns i) {mi : Nat} (H : ∀ m, mi + r.st i k 2 ≤ m → m ≤ mi + r.st i k 3 → okT r i k (m / 60) = true) : badT r.S r.lim (r.st i) mi r.hours k = none := by
  refine badT_none ?_
  rw [List.all_eq_true]
  intro t ht
  rw [insB_ok h hi hk]
  obtain ⟨h1, h2, _⟩ := mem_hrs.1 ht
  have hle := st23 h.nums hk
  have := H (max (mi + r.st i k 2) (t * 60)) (Nat.le_max_left _ _) (max_le_hi (by omega) h2)
  rwa [max_div _ _ h1] at this
theorem blk_noneR (h : r.Ok w) (hi : i < r.n) {mi : Nat} (H : ∀ k, k < r.ns i → ∀ m, mi + r.st i k 2 ≤ m → m ≤ mi + r.st i k 3 → okT r i k (m / 60) = true) : r.blk mi i = none :=
  blkR_none fun k hk => bad_noneR h hi hk (H k hk)
theorem blk_someR (h : r.Ok w) (hi : i < r.n) (hk : k < r.ns i) {mi m : Nat} (hp : ∀ j, j < k → ∀ m, mi + r.st i j 2 ≤ m → m ≤ mi + r.st i j 3 → okT r i j (m / 60) = true) (h1 : mi + r.st i k 2 ≤ m) (h2 : m ≤ mi + r.st i k 3)
    (hb : okT r i k (m / 60) = false) (hn : ∀ m', mi + r.st i k 2 ≤ m' → m' < m → okT r i k (m' / 60) = true) : r.blk mi i = some (k, m) := by
  cases hbt : badT r.S r.lim (r.st i) mi r.hours k with
  | none =>
    have ha := badT_none_iff.1 hbt
    have hall : (hrsL (mi + r.st i k 2) (mi + r.st i k 3) r.hours).all (okT r i k) = true := by
      rw [List.all_eq_true]
      intro t ht
      rw [← insB_ok h hi hk]
      exact ha t ht
    have := (all_hrs fun t u ht hu => ok_const h ht hu).1 hall (m / 60) (by omega) (by omega)
    rw [hb] at this
    cases this
  | some t =>
    obtain ⟨f1, f2, f3, f4, f5⟩ := first_minute hbt
    have hle : mi + r.st i k 2 ≤ mi + r.st i k 3 := by omega
    rw [Nat.max_eq_right hle] at f2
    have f5' : ∀ m', mi + r.st i k 2 ≤ m' → m' < max (mi + r.st i k 2) (t * 60) → okT r i k (m' / 60) = true := fun m' a b => by
      have := f5 m' a b
      simp only [Bool.not_eq_false'] at this
      rwa [insB_ok h hi hk] at this
    have f4' : okT r i k t = false := by
      have := f4
      simp only [Bool.not_eq_true'] at this
      rwa [insB_ok h hi hk] at this
    have hm : max (mi + r.st i k 2) (t * 60) = m := by
      rcases Nat.lt_trichotomy m (max (mi + r.st i k 2) (t * 60)) with g | g | g
      · have := f5' m h1 g
        rw [hb] at this
        cases this
      · exact g.symm
      · have := hn _ f1 g
        rw [f3, f4'] at this
        cases this
    have := blkR_some (S := r.S) (lim := r.lim) (st := r.st i) (mi := mi) (H := r.hours) hk (fun j hj => bad_noneR h hi (by omega) (hp j hj)) hbt
    rw [hm] at this
    exact this
/-- what the reference's safe adds up -/
def allA (r : Rl) (i mi n : Nat) : Bool := (List.range n).all fun k => hB (okT r i k) ((mi + r.st i k 2) / 60) ((mi + r.st i k 3) / 60 + 1 - (mi + r.st i k 2) / 60)
def anyN (r : Rl) (i mi n : Nat) : Bool := (List.range n).any fun k => hB (ouT r i k) ((mi + r.st i k 2) / 60) ((mi + r.st i k 3) / 60 + 1 - (mi + r.st i k 2) / 60)
theorem allA_succ (r : Rl) (i mi n : Nat) : allA r i mi (n + 1) = (allA r i mi n && hB (okT r i n) ((mi + r.st i n 2) / 60) ((mi + r.st i n 3) / 60 + 1 - (mi + r.st i n 2) / 60)) := by
  unfold allA
  rw [List.range_succ]
  simp
theorem anyN_succ (r : Rl) (i mi n : Nat) : anyN r i mi (n + 1) = (anyN r i mi n || hB (ouT r i n) ((mi + r.st i n 2) / 60) ((mi + r.st i n 3) / 60 + 1 - (mi + r.st i n 2) / 60)) := by
  unfold anyN
  rw [List.range_succ]
  simp
theorem known_some (h : r.Ok w) (hg : r.good) (hi : i < r.n) (hk : k < r.ns i) (t : Nat) : skNone (known r.f (r.st i k 0 : Nat) (r.st i k 1 : Nat) (t : Nat) r.k) = false := by
  rcases Nat.lt_or_ge t r.hours with ht | ht
  · have hs := st_in h.nums hi hk
    exact (skyB_iff (known_any _ _ _ _ _)).1 ((good_sky.2 hg) t (r.st i k 1) (r.st i k 0) hs.2 hs.1 (.inl ht))
  · rw [known_late h.hfo (by omega)]
    decide
theorem out_eq (h : r.Ok w) (hg : r.good) (hi : i < r.n) (hk : k < r.ns i) (mi : Nat) : outB r.S r.lim (r.st i) mi r.hours k = hB (ouT r i k) ((mi + r.st i k 2) / 60) ((mi + r.st i k 3) / 60 + 1 - (mi + r.st i k 2) / 60) := by
  have hl := h.nums.lims
  have he : outB r.S r.lim (r.st i) mi r.hours k = (hrsL (mi + r.st i k 2) (mi + r.st i k 3) r.hours).all (ouT r i k) := by
    unfold outB
    congr 1
    funext t
    rw [S_known h hi hk]
    exact out_lim (known_any _ _ _ _ _) (known_some h hg hi hk t) hl.1.1 hl.2.1.2 hl.2.2.1
  rw [he, Bool.eq_iff_iff, all_hrs (fun t u ht hu => ou_const h ht hu), hB_iff]
  have hle := st23 h.nums hk
  exact ⟨fun H t a b => H t a (by omega), fun H t a b => H t a (by omega)⟩
theorem all_eq (h : r.Ok w) (hi : i < r.n) (mi : Nat) : allA r i mi (r.ns i) = true ↔ r.blk mi i = none := by
  constructor
  · intro ha
    unfold allA at ha
    rw [List.all_eq_true] at ha
    refine blk_noneR h hi fun k hk m h1 h2 => ?_
    exact (hB_iff.1 (ha k (List.mem_range.2 hk))) (m / 60) (by omega) (by omega)
  · intro hb
    unfold allA
    rw [List.all_eq_true]
    intro k hk
    have hk := List.mem_range.1 hk
    have hall := blkR_none_iff.1 hb k hk
    have : (hrsL (mi + r.st i k 2) (mi + r.st i k 3) r.hours).all (okT r i k) = true := by
      rw [List.all_eq_true]
      intro t ht
      rw [← insB_ok h hi hk]
      exact hall t ht
    exact hB_iff.2 fun t a b => (all_hrs fun t u ht hu => ok_const h ht hu).1 this t a (by omega)
theorem safe_eq (h : r.Ok w) (hg : r.good) (hi : i < r.n) (mi : Nat) : r.safe i mi = if allA r i mi (r.ns i) = true then 1 else if anyN r i mi (r.ns i) = true then 2 else 3 := by
  have hn : anyU (outB r.S r.lim (r.st i) mi r.hours) (r.ns i) = anyN r i mi (r.ns i) := anyU_congr fun k hk => out_eq h hg hi hk mi
  show safeN r.S r.lim (r.st i) mi r.hours (r.ns i) = _
  unfold safeN
  rw [hn]
  by_cases ha : allA r i mi (r.ns i) = true
  · rw [if_pos ha, if_pos]
    have : blkR r.S r.lim (r.st i) mi r.hours (r.ns i) = none := (all_eq h hi mi).1 ha
    rw [this]
    rfl
  · rw [if_neg ha, if_neg]
    intro hh
    refine ha ((all_eq h hi mi).2 ?_)
    show blkR r.S r.lim (r.st i) mi r.hours (r.ns i) = none
    cases hx : blkR r.S r.lim (r.st i) mi r.hours (r.ns i) with
    | none => rfl
    | some p => rw [hx] at hh; cases hh
end
end Go.Proofs.YtcekdljjmfkacaaGreat
set_option linter.unusedSimpArgs false
set_option linter.unusedVariables false
namespace Go.Proofs.YtcekdljjmfkacaaGreat
open Go.RowKit Go.Shelf
attribute [local go_sem] Oper.semAt_some wide_fn wide_dep wideR_fn wideR_dep
section
variable (z : Int) (ok : Bool) (REL : Array Value) (w : World)
/-- the program's checkQuestion, exactly -/
theorem cq_any (hIs : IsRel REL) (hC : ∀ W, G w W → Calls Tryz.prog 9 #[.agg REL] W fun e w' => e = .returned (.int .i64 z) ∧ G W w') :
    Calls Tryz.prog 38 #[.agg REL, .bool ok] w fun e w' => e = .returned (.int .i64 (if z = 0 then (if ok = true then (0 : Int) else 1) else z)) ∧ G w w' := by
  have HC := Lib.hid hC
  have HIS := Lib.hid hIs
  clear hC hIs
  have H1 : Hid (∀ w', z ≠ 0 → G w w' → (fun e w' => e = .returned (.int .i64 (if z = 0 then (if ok = true then (0 : Int) else 1) else z)) ∧ G w w' : Ending → World → Prop) (.returned (.int .i64 z)) w') := fun w' h g => ⟨by rw [if_neg h], g⟩
  have H2 : Hid (∀ w', z = 0 → ok = false → G w w' → (fun e w' => e = .returned (.int .i64 (if z = 0 then (if ok = true then (0 : Int) else 1) else z)) ∧ G w w' : Ending → World → Prop) (.returned (.int .i64 1)) w') := fun w' h h2 g => ⟨by rw [if_pos h, if_neg (by rw [h2]; simp)], g⟩
  have H3 : Hid (∀ w', z = 0 → ok = true → G w w' → (fun e w' => e = .returned (.int .i64 (if z = 0 then (if ok = true then (0 : Int) else 1) else z)) ∧ G w w' : Ending → World → Prop) (.returned (.int .i64 0)) w') := fun w' h h2 g => ⟨by rw [if_pos h, if_pos h2], g⟩
  generalize (fun e w' => e = .returned (.int .i64 (if z = 0 then (if ok = true then (0 : Int) else 1) else z)) ∧ G w w' : Ending → World → Prop) = PP at *
  have g0 : G w (w.alloc (.cells REL 35)) := (G.rf _).a _
  have b0 : Blk (w.alloc (.cells REL 35)) w.heap.size 35 REL := Blk.new w 35 REL
  go_enter Tryz.func38, Tryz.ntmps38
  go_upto_region 1 with fail
  change Code.wp _ _ _ _ (w.alloc (.cells REL 35))
  generalize w.alloc (.cells REL 35) = w1 at *
  refine wp_region_lit ?_
  refine wpList_load35 w.heap.size 2 HIS.out rfl rfl rfl b0 ?_
  try simp only [Act.put, List.getElem_toArray, List.getElem_cons_zero, List.getElem_cons_succ, List.setIfInBounds_toArray, List.set_cons_zero, List.set_cons_succ]
  refine wpList_plain rfl fun K hK => ?_
  go_simp
  refine (HC.out w1 g0).mono ?_
  rintro e w2 ⟨rfl, g2⟩
  refine hK _ _ ?_
  clear hK HC
  try simp only [Act.put, List.getElem_toArray, List.getElem_cons_zero, List.getElem_cons_succ, List.setIfInBounds_toArray, List.set_cons_zero, List.set_cons_succ]
  replace g0 := g0.t g2
  clear g2
  by_cases h0 : z = 0
  · subst h0
    cases ok
    · have HF := Lib.hid (H2.out _ rfl rfl g0)
      clear H1 H2 H3
      go_wp2
      exact HF.out
    · have HF := Lib.hid (H3.out _ rfl rfl g0)
      clear H1 H2 H3
      go_wp2
      exact HF.out
  · have HF := Lib.hid (H1.out _ h0 g0)
    clear H1 H2 H3
    go_wp2
    exact HF.out
/-- question refuses what checkQuestion refuses -/
theorem question_err (hIs : IsRel REL) (hQ : ∀ W, G w W → Calls Tryz.prog 38 #[.agg REL, .bool ok] W fun e w' => e = .returned (.int .i64 z) ∧ G W w') (hz : z ≠ 0) :
    Calls Tryz.prog 48 #[.agg REL, .bool ok] w fun e w' => e = .returned (.tuple #[.pointer none, .int .i64 z]) ∧ G w w' := by
  have HQ := Lib.hid hQ
  have HIS := Lib.hid hIs
  clear hQ hIs
  have H1 : Hid (∀ w', G w w' → (fun e w' => e = .returned (.tuple #[.pointer none, .int .i64 z]) ∧ G w w' : Ending → World → Prop) (.returned (.tuple #[.pointer none, .int .i64 z])) w') := fun w' g => ⟨rfl, g⟩
  generalize (fun e w' => e = .returned (.tuple #[.pointer none, .int .i64 z]) ∧ G w w' : Ending → World → Prop) = PP at *
  have g0 : G w (w.alloc (.cells REL 35)) := (G.rf _).a _
  have b0 : Blk (w.alloc (.cells REL 35)) w.heap.size 35 REL := Blk.new w 35 REL
  go_enter Tryz.func48, Tryz.ntmps48
  go_upto_region 1 with fail
  change Code.wp _ _ _ _ (w.alloc (.cells REL 35))
  generalize w.alloc (.cells REL 35) = w1 at *
  refine wp_region_lit ?_
  refine wpList_load35 w.heap.size 2 HIS.out rfl rfl rfl b0 ?_
  try simp only [Act.put, List.getElem_toArray, List.getElem_cons_zero, List.getElem_cons_succ, List.setIfInBounds_toArray, List.set_cons_zero, List.set_cons_succ]
  go_wp2_with (go_at_call 38; refine (HQ.out _ g0).mono ?_; rintro e w2 ⟨rfl, hG2⟩)
  exact H1.out _ (g0.t hG2)
end
end Go.Proofs.YtcekdljjmfkacaaGreat
set_option linter.unusedSimpArgs false
set_option linter.unusedVariables false
namespace Go.Proofs.YtcekdljjmfkacaaGreat
open Go.RowKit Go.Shelf
attribute [local go_sem] Oper.semAt_some wide_fn wide_dep wideR_fn wideR_dep
/-- the error of a question that is refused -/
def zb (c : Int) : Int := if c = 0 then 1 else c
theorem zb_ne (c : Int) : zb c ≠ 0 := by
  unfold zb
  split
  · decide
  · assumption
section
variable (north cols lofts wrong bx bY sl sh lw lg lh hours dark : Int) (east : List Int) (svs : List Sv) (n k : Nat) (h f : Nat → Nat → Int) (ea sa ha fa : Option Addr) (ec sc hc fc : Nat) (w : World)
theorem chk_iff : chkE north cols lofts wrong bx bY sl sh lw lg lh hours dark east svs n k h f = 0 ↔ COk north cols lofts wrong bx bY sl sh lw lg lh hours dark east svs n k h f := by
  constructor
  · intro h0
    by_cases hC : COk north cols lofts wrong bx bY sl sh lw lg lh hours dark east svs n k h f
    · exact hC
    · by_cases hR : ROk north cols lofts wrong bx bY sl sh lw lg lh hours dark east svs n h
      · have := chk_ex north cols lofts wrong bx bY sl sh lw lg lh hours dark east svs n k h f (z := 61) (.inr (.inl ⟨rfl, hR, hC⟩))
        rw [h0] at this
        exact absurd this (by decide)
      · have := chk_ex north cols lofts wrong bx bY sl sh lw lg lh hours dark east svs n k h f (z := 60) (.inl ⟨rfl, hR⟩)
        rw [h0] at this
        exact absurd this (by decide)
  · intro hC
    exact (chk_ex north cols lofts wrong bx bY sl sh lw lg lh hours dark east svs n k h f (z := 0) (.inr (.inr ⟨rfl, hC⟩))).symm
theorem ck_all (L : Laid east svs n k h f ea sa ha fa w) : Calls Tryz.prog 9 #[.agg #[.int .i64 north, .int .i64 cols, .slice ea east.length ec, .int .i64 lofts, .slice sa svs.length sc, .int .i64 wrong, .int .i64 bx, .int .i64 bY, .slice ha n hc, .int .i64 sl, .int .i64 sh, .slice fa k fc, .int .i64 lw, .int .i64 lg, .int .i64 lh, .int .i64 hours, .int .i64 dark]] w fun e w' => e = .returned (.int .i64 (chkE north cols lofts wrong bx bY sl sh lw lg lh hours dark east svs n k h f)) ∧ G w w' :=
  Check_all north cols lofts wrong bx bY sl sh lw lg lh hours dark east svs n k h f ea sa ha fa ec sc hc fc w L.he L.hs L.hl L.hl2 L.hH L.hn L.hF
theorem rck_all (L : Laid east svs n k h f ea sa ha fa w) : Calls Tryz.prog 10 #[.agg #[.int .i64 north, .int .i64 cols, .slice ea east.length ec, .int .i64 lofts, .slice sa svs.length sc, .int .i64 wrong, .int .i64 bx, .int .i64 bY, .slice ha n hc, .int .i64 sl, .int .i64 sh, .slice fa k fc, .int .i64 lw, .int .i64 lg, .int .i64 lh, .int .i64 hours, .int .i64 dark]] w fun e w' => e = .returned (.int .i64 (chkE north cols lofts wrong bx bY sl sh lw lg lh hours dark east svs n k h f)) ∧ G w w' := by
  refine (refCheck_ex north cols lofts wrong bx bY sl sh lw lg lh hours dark east svs n k h f ea sa ha fa ec sc hc fc w L.he L.hs L.hl L.hl2 L.hH L.hn L.hF).mono fun e w' hp => ?_
  obtain ⟨z, rfl, hz, hg⟩ := hp
  exact ⟨by rw [chk_ex north cols lofts wrong bx bY sl sh lw lg lh hours dark east svs n k h f hz], hg⟩
theorem cq_bad (L : Laid east svs n k h f ea sa ha fa w) (ok : Bool) (hb : chkE north cols lofts wrong bx bY sl sh lw lg lh hours dark east svs n k h f ≠ 0 ∨ ok = false) : Calls Tryz.prog 38 #[.agg #[.int .i64 north, .int .i64 cols, .slice ea east.length ec, .int .i64 lofts, .slice sa svs.length sc, .int .i64 wrong, .int .i64 bx, .int .i64 bY, .slice ha n hc, .int .i64 sl, .int .i64 sh, .slice fa k fc, .int .i64 lw, .int .i64 lg, .int .i64 lh, .int .i64 hours, .int .i64 dark], .bool ok] w fun e w' => e = .returned (.int .i64 (zb (chkE north cols lofts wrong bx bY sl sh lw lg lh hours dark east svs n k h f))) ∧ G w w' := by
  refine (cq_any (chkE north cols lofts wrong bx bY sl sh lw lg lh hours dark east svs n k h f) ok _ w isRelV (fun W hW => ck_all north cols lofts wrong bx bY sl sh lw lg lh hours dark east svs n k h f ea sa ha fa ec sc hc fc W (L.keep hW))).mono fun e w' hp => ?_
  obtain ⟨rfl, hg⟩ := hp
  refine ⟨?_, hg⟩
  unfold zb
  by_cases h0 : chkE north cols lofts wrong bx bY sl sh lw lg lh hours dark east svs n k h f = 0
  · rcases hb with hb | rfl
    · exact absurd h0 hb
    · rw [if_pos h0, if_pos h0]
      rfl
  · rw [if_neg h0, if_neg h0]
theorem cq_good (L : Laid east svs n k h f ea sa ha fa w) (hC : COk north cols lofts wrong bx bY sl sh lw lg lh hours dark east svs n k h f) : Calls Tryz.prog 38 #[.agg #[.int .i64 north, .int .i64 cols, .slice ea east.length ec, .int .i64 lofts, .slice sa svs.length sc, .int .i64 wrong, .int .i64 bx, .int .i64 bY, .slice ha n hc, .int .i64 sl, .int .i64 sh, .slice fa k fc, .int .i64 lw, .int .i64 lg, .int .i64 lh, .int .i64 hours, .int .i64 dark], .bool true] w fun e w' => e = .returned (.int .i64 0) ∧ G w w' := by
  refine (cq_any (chkE north cols lofts wrong bx bY sl sh lw lg lh hours dark east svs n k h f) true _ w isRelV (fun W hW => ck_all north cols lofts wrong bx bY sl sh lw lg lh hours dark east svs n k h f ea sa ha fa ec sc hc fc W (L.keep hW))).mono fun e w' hp => ?_
  obtain ⟨rfl, hg⟩ := hp
  exact ⟨by rw [if_pos ((chk_iff north cols lofts wrong bx bY sl sh lw lg lh hours dark east svs n k h f).2 hC)]; rfl, hg⟩
theorem q_bad (L : Laid east svs n k h f ea sa ha fa w) (ok : Bool) (hb : chkE north cols lofts wrong bx bY sl sh lw lg lh hours dark east svs n k h f ≠ 0 ∨ ok = false) : Calls Tryz.prog 48 #[.agg #[.int .i64 north, .int .i64 cols, .slice ea east.length ec, .int .i64 lofts, .slice sa svs.length sc, .int .i64 wrong, .int .i64 bx, .int .i64 bY, .slice ha n hc, .int .i64 sl, .int .i64 sh, .slice fa k fc, .int .i64 lw, .int .i64 lg, .int .i64 lh, .int .i64 hours, .int .i64 dark], .bool ok] w (QR w (zb (chkE north cols lofts wrong bx bY sl sh lw lg lh hours dark east svs n k h f)) (fun _ _ => False)) := by
  refine (question_err (zb (chkE north cols lofts wrong bx bY sl sh lw lg lh hours dark east svs n k h f)) ok _ w isRelV (fun W hW => cq_bad north cols lofts wrong bx bY sl sh lw lg lh hours dark east svs n k h f ea sa ha fa ec sc hc fc W (L.keep hW) ok hb) (zb_ne _)).mono fun e w' hp => ?_
  obtain ⟨rfl, hg⟩ := hp
  exact ⟨none, rfl, hg, fun h => absurd h (zb_ne _)⟩
theorem cs_bad (L : Laid east svs n k h f ea sa ha fa w) (ok : Bool) (hb : chkE north cols lofts wrong bx bY sl sh lw lg lh hours dark east svs n k h f ≠ 0 ∨ ok = false) : Calls Tryz.prog 52 #[.agg #[.int .i64 north, .int .i64 cols, .slice ea east.length ec, .int .i64 lofts, .slice sa svs.length sc, .int .i64 wrong, .int .i64 bx, .int .i64 bY, .slice ha n hc, .int .i64 sl, .int .i64 sh, .slice fa k fc, .int .i64 lw, .int .i64 lg, .int .i64 lh, .int .i64 hours, .int .i64 dark], .bool ok] w fun e w' => e = .returned (.int .i64 (zb (chkE north cols lofts wrong bx bY sl sh lw lg lh hours dark east svs n k h f))) ∧ G w w' := by
  refine (rCheckSky_any north cols lofts wrong bx bY sl sh lw lg lh hours dark east svs n k h f ea sa ha fa ec sc hc fc w ok L.he L.hs L.hl L.hl2 L.hH L.hn L.hF).mono fun e w' hp => ?_
  obtain ⟨z, rfl, hz, hg⟩ := hp
  refine ⟨?_, hg⟩
  unfold zb
  rcases hz with ⟨h1, rfl⟩ | ⟨h1, h2, rfl⟩ | ⟨h1, h2, h3, rfl⟩ | ⟨h1, h2, h3, rfl⟩
  · rw [if_neg h1]
  · rw [if_pos h1]
  · rcases hb with hb | hb
    · exact absurd h1 hb
    · rw [hb] at h2; cases h2
  · rcases hb with hb | hb
    · exact absurd h1 hb
    · rw [hb] at h2; cases h2
theorem cs_good (L : Laid east svs n k h f ea sa ha fa w) (hC : COk north cols lofts wrong bx bY sl sh lw lg lh hours dark east svs n k h f) : Calls Tryz.prog 52 #[.agg #[.int .i64 north, .int .i64 cols, .slice ea east.length ec, .int .i64 lofts, .slice sa svs.length sc, .int .i64 wrong, .int .i64 bx, .int .i64 bY, .slice ha n hc, .int .i64 sl, .int .i64 sh, .slice fa k fc, .int .i64 lw, .int .i64 lg, .int .i64 lh, .int .i64 hours, .int .i64 dark], .bool true] w fun e w' => e = .returned (.int .i64 (mkR north cols lofts wrong bx bY sl sh lw lg lh hours dark east svs n k h f ea sa ha fa ec sc hc fc).err) ∧ G w w' := by
  refine (rCheckSky_any north cols lofts wrong bx bY sl sh lw lg lh hours dark east svs n k h f ea sa ha fa ec sc hc fc w true L.he L.hs L.hl L.hl2 L.hH L.hn L.hF).mono fun e w' hp => ?_
  obtain ⟨z, rfl, hz, hg⟩ := hp
  refine ⟨?_, hg⟩
  have h0 := (chk_iff north cols lofts wrong bx bY sl sh lw lg lh hours dark east svs n k h f).2 hC
  have hgs : SkyTo f k cols.toNat east.length hours.toNat 0 0 ↔ (mkR north cols lofts wrong bx bY sl sh lw lg lh hours dark east svs n k h f ea sa ha fa ec sc hc fc).goodB = true := good_sky.trans (Rl.good_iff (mkR north cols lofts wrong bx bY sl sh lw lg lh hours dark east svs n k h f ea sa ha fa ec sc hc fc)).symm
  unfold Rl.err
  rcases hz with ⟨h1, rfl⟩ | ⟨h1, h2, rfl⟩ | ⟨h1, h2, h3, rfl⟩ | ⟨h1, h2, h3, rfl⟩
  · exact absurd h0 h1
  · cases h2
  · rw [if_neg (fun h => h3 (hgs.2 h))]
  · rw [if_pos (hgs.1 h3)]
end
end Go.Proofs.YtcekdljjmfkacaaGreat
