import Derived.Test.YtcekdljjmfkacaaSf
import Derived.Test.YtcekdljjmfkacaaQn
set_option linter.unusedSimpArgs false
set_option linter.unusedVariables false
namespace Go.Proofs.Ytcekdljjmfkacaa
open Go.RowKit Go.Shelf
/-- all that is in a is in b -/
def Sk.le (a b : Sk) : Prop := (b.wl ≤ a.wl ∧ a.wh ≤ b.wh) ∧ (b.sl ≤ a.sl ∧ a.sh ≤ b.sh) ∧ b.hl ≤ a.hl ∧ a.hh ≤ b.hh
theorem Sk.le_rf (a : Sk) : a.le a := ⟨⟨Int.le_refl _, Int.le_refl _⟩, ⟨Int.le_refl _, Int.le_refl _⟩, Int.le_refl _, Int.le_refl _⟩
theorem Sk.le_anti {a b : Sk} (h : a.le b) (h' : b.le a) : a = b := by
  obtain ⟨a1, a2, a3, a4, a5, a6⟩ := a
  obtain ⟨b1, b2, b3, b4, b5, b6⟩ := b
  unfold Sk.le at h h'
  simp only at h h'
  have e1 : a1 = b1 := by omega
  have e2 : a2 = b2 := by omega
  have e3 : a3 = b3 := by omega
  have e4 : a4 = b4 := by omega
  have e5 : a5 = b5 := by omega
  have e6 : a6 = b6 := by omega
  subst e1 e2 e3 e4 e5 e6
  rfl
theorem Sk.le_tr {a b c : Sk} (h : a.le b) (h' : b.le c) : a.le c := by
  unfold Sk.le at *
  omega
theorem Sk.both_le {a b : Sk} : (a.both b).le a ∧ (a.both b).le b := by
  unfold Sk.le Sk.both
  simp only
  omega
theorem Sk.le_both {s a b : Sk} (h : s.le a) (h' : s.le b) : s.le (a.both b) := by
  unfold Sk.le Sk.both at *
  simp only
  omega
theorem known_any (f : Nat → Nat → Int) (x y h : Int) (k : Nat) : (known f x y h k).le skAny := by
  induction k with
  | zero => exact Sk.le_rf _
  | succ k ih =>
    cases hi : inFr (f k) x y h
    · rw [known_no hi]; exact ih
    · rw [known_yes hi]; exact Sk.le_tr Sk.both_le.1 ih
theorem known_le {f : Nat → Nat → Int} {x y h : Int} {k i : Nat} (hi : i < k) (hf : inFr (f i) x y h = true) : (known f x y h k).le (skF (f i)) := by
  induction k with
  | zero => omega
  | succ k ih =>
    by_cases hik : i = k
    · subst hik
      rw [known_yes hf]; exact Sk.both_le.2
    · have := ih (by omega)
      cases hk : inFr (f k) x y h
      · rw [known_no hk]; exact this
      · rw [known_yes hk]; exact Sk.le_tr Sk.both_le.1 this
theorem le_known {f : Nat → Nat → Int} {x y h : Int} {k : Nat} {s : Sk} (ha : s.le skAny) (hf : ∀ i, i < k → inFr (f i) x y h = true → s.le (skF (f i))) : s.le (known f x y h k) := by
  induction k with
  | zero => exact ha
  | succ k ih =>
    have := ih fun i hi => hf i (by omega)
    cases hk : inFr (f k) x y h
    · rw [known_no hk]; exact this
    · rw [known_yes hk]; exact Sk.le_both this (hf k (by omega) hk)
/-- fronts that are among others leave more -/
theorem known_sub {f f' : Nat → Nat → Int} {x y h : Int} {k k' : Nat} (hs : ∀ i, i < k → ∃ j, j < k' ∧ f' j = f i) : (known f' x y h k').le (known f x y h k) := by
  refine le_known (known_any _ _ _ _ _) fun i hi hf => ?_
  obtain ⟨j, hj, e⟩ := hs i hi
  rw [← e] at hf ⊢
  exact known_le hj hf
theorem skIn_iff {s l : Sk} : skIn s l = true ↔ s.le l := by
  unfold skIn skEq Sk.both Sk.le
  simp only [Bool.and_eq_true, beq_iff_eq]
  omega
theorem skNone_iff {s : Sk} : skNone s = true ↔ (s.wh < s.wl ∨ s.sh < s.sl ∨ s.hh < s.hl) := by
  unfold skNone
  simp only [Bool.or_eq_true, decide_eq_true_eq]
theorem skIn_mono {s s' l l' : Sk} (h : s'.le s) (hl : l.le l') (hi : skIn s l = true) : skIn s' l' = true := skIn_iff.2 (Sk.le_tr (Sk.le_tr h (skIn_iff.1 hi)) hl)
theorem skOut_mono {s s' l l' : Sk} (h : s'.le s) (hl : l'.le l) (hi : skOut s l = true) : skOut s' l' = true := by
  unfold skOut at *
  rw [skNone_iff] at *
  unfold Sk.both Sk.le at *
  simp only at *
  omega
theorem skOut_not {s l : Sk} (hn : skNone s = false) (h : skOut s l = true) : skIn s l = false := by
  cases hi : skIn s l
  · rfl
  · rw [skIn_iff] at hi
    unfold skOut at h
    rw [skNone_iff] at h
    have : ¬ (s.wh < s.wl ∨ s.sh < s.sl ∨ s.hh < s.hl) := fun h' => by rw [skNone_iff.2 h'] at hn; cases hn
    unfold Sk.both Sk.le at *
    simp only at *
    omega
section
variable {S S' : Int → Int → Int → Option Sk} {lim lim' : Sk} {st : Nat → Nat → Nat} {mi H ns : Nat}
theorem badT_none_iff {k : Nat} : badT S lim st mi H k = none ↔ ∀ t ∈ hrsL (mi + st k 2) (mi + st k 3) H, insB S lim st k t = true := by
  unfold badT
  rw [List.find?_eq_none]
  simp
theorem blkR_none_iff : blkR S lim st mi H ns = none ↔ ∀ k, k < ns → ∀ t ∈ hrsL (mi + st k 2) (mi + st k 3) H, insB S lim st k t = true := by
  constructor
  · intro h k hk
    unfold blkR at h
    rw [List.findSome?_eq_none_iff] at h
    have := h k (List.mem_range.2 hk)
    rw [Option.map_eq_none_iff] at this
    exact badT_none_iff.1 this
  · intro h
    exact blkR_none fun k hk => badT_none_iff.2 (h k hk)
/-- if each weather that is inside is so in the other case, nothing becomes blocked -/
theorem blkR_mono (hi : ∀ k, k < ns → ∀ t ∈ hrsL (mi + st k 2) (mi + st k 3) H, insB S lim st k t = true → insB S' lim' st k t = true) (h : blkR S lim st mi H ns = none) : blkR S' lim' st mi H ns = none :=
  blkR_none_iff.2 fun k hk t ht => hi k hk t ht (blkR_none_iff.1 h k hk t ht)
theorem hrsL_ne {lo hi : Nat} (h : lo ≤ hi) (H : Nat) : lo / 60 ∈ hrsL lo hi H := by
  unfold hrsL hrsN
  have : lo / 60 ≤ hi / 60 := Nat.div_le_div_right h
  refine List.mem_map.2 ⟨0, List.mem_range.2 ?_, rfl⟩
  split
  · omega
  · split <;> omega
theorem mem_hrsL {lo hi H t : Nat} (h1 : lo / 60 ≤ t) (h2 : t ≤ hi / 60) (h3 : t ≤ H) : t ∈ hrsL lo hi H := by
  unfold hrsL hrsN
  refine List.mem_map.2 ⟨t - lo / 60, List.mem_range.2 ?_, by omega⟩
  split
  · omega
  · split <;> omega
theorem safeN_one : safeN S lim st mi H ns = 1 ↔ blkR S lim st mi H ns = none := by
  unfold safeN
  cases h : blkR S lim st mi H ns with
  | none => simp
  | some p =>
    simp only [Option.isSome_some, Bool.true_eq_false, if_false]
    split <;> simp
theorem safeN_two : safeN S lim st mi H ns = 2 ↔ blkR S lim st mi H ns ≠ none ∧ ∃ k, k < ns ∧ outB S lim st mi H k = true := by
  unfold safeN
  have ha : anyU (outB S lim st mi H) ns = true ↔ ∃ k, k < ns ∧ outB S lim st mi H k = true := by
    unfold anyU
    rw [List.any_eq_true]
    exact ⟨fun ⟨k, a, b⟩ => ⟨k, List.mem_range.1 a, b⟩, fun ⟨k, a, b⟩ => ⟨k, List.mem_range.2 a, b⟩⟩
  cases h : blkR S lim st mi H ns with
  | none => simp
  | some p =>
    simp only [Option.isSome_some, Bool.true_eq_false, if_false]
    rw [← ha]
    split
    · rename_i hh; simp [hh]
    · rename_i hh; simp [hh]
theorem safeN_cases : safeN S lim st mi H ns = 1 ∨ safeN S lim st mi H ns = 2 ∨ safeN S lim st mi H ns = 3 := by
  unfold safeN
  split
  · exact .inl rfl
  · split
    · exact .inr (.inl rfl)
    · exact .inr (.inr rfl)
end
end Go.Proofs.Ytcekdljjmfkacaa
set_option linter.unusedSimpArgs false
set_option linter.unusedVariables false
namespace Go.Proofs.Ytcekdljjmfkacaa
open Go.RowKit Go.ChangeShapes Go.WideShapes Go.ChangeAt
set_option maxRecDepth 100000
attribute [local go_sem] Oper.semAt_some wide_fn wide_dep wideR_fn wideR_dep
theorem wf_bd {n : Int} (h : (Lit.int .i64 n).wf = true) : -9223372036854775808 ≤ n ∧ n ≤ 9223372036854775807 := by
  unfold Lit.wf at h
  simp only [Bool.and_eq_true, decide_eq_true_eq] at h
  exact h
section
variable {H : Type} {enc : TypeId × Value → H} {w : World}
/-- an ask that is handed in: a home, two minutes, a place, an hour -/
theorem ask3_valB {v : Value} {d : DataW H} {p : List MemPlace} {r : Reach} {b0 : Nat} (hv : Value.okWide Try.prog w r b0 62 v) (h : DataW.Trod enc Try.prog w 0 (fun _ => true) true 62 v d p) :
    ∃ a b c px py d : Int, v = .agg #[.int .i64 a, .int .i64 b, .int .i64 c, .int .i64 px, .int .i64 py, .int .i64 d] ∧ (-9223372036854775808 ≤ c ∧ c ≤ 9223372036854775807) := by
  obtain ⟨cs, rfl, hsz⟩ := okWide_struct Try.underlying62 hv
  rw [k62] at hsz
  obtain ⟨l⟩ := cs
  obtain ⟨fuel, hf0⟩ := h
  obtain ⟨xs, n, _, _, hl, hlen, hf⟩ := DataW.trod_struct Try.underlying62 hf0
  match l, hsz, xs, hlen with
  | [c0, c1, c2, c3, c4, c5], _, [y0, y1, y2, y3, y4], _ =>
    have h0 := hf 0 _ rfl
    have h1 := hf 1 _ rfl
    have h2 := hf 2 _ rfl
    have h3 := hf 3 _ rfl
    have h4 := hf 4 _ rfl
    simp [k3, k27q, Value.cells] at h0 h1 h2 h3 h4
    obtain ⟨a0, e0, _, _⟩ := DataW.trod_int Try.underlying3 h0
    obtain ⟨a1, e1, _, _⟩ := DataW.trod_int Try.underlying3 h1
    obtain ⟨a2, e2, _, w2⟩ := DataW.trod_int Try.underlying3 h2
    obtain ⟨a3, a4, e3⟩ := point_of h3
    obtain ⟨a5, e4, _, _⟩ := DataW.trod_int Try.underlying3 h4
    simp at e0 e1 e2 e3 e4
    exact ⟨a0, a1, a2, a3, a4, a5, by simp [e0, e1, e2, e3, e4], wf_bd w2⟩
end
end Go.Proofs.Ytcekdljjmfkacaa
set_option linter.unusedSimpArgs false
set_option linter.unusedVariables false
namespace Go.Proofs.Ytcekdljjmfkacaa
open Go.RowKit Go.Shelf
attribute [local go_sem] Oper.semAt_some wide_fn wide_dep wideR_fn wideR_dep
theorem err_cases (r : Rl) : r.err = 0 ∨ r.err = 3 := by
  unfold Rl.err
  split
  · exact .inl rfl
  · exact .inr rfl
/-- Blocks names a home just if its way is not surely inside -/
theorem named (r : Rl) {i m : Nat} (hi : i < r.n) : (bks (r.blk m) r.n).any (fun b => b.1 == i) = !(r.safe i m == 1) := by
  rw [bks_any]
  have h := safeN_one (S := r.S) (lim := r.lim) (st := r.st i) (mi := m) (H := r.hours) (ns := r.ns i)
  cases hb : r.blk m i with
  | none =>
    have : r.safe i m = 1 := h.2 hb
    rw [this]; simp
  | some p =>
    have : r.safe i m ≠ 1 := fun e => by
      have := h.1 e
      unfold Rl.blk at hb
      rw [hb] at this
      cases this
    simp [hi, this]
section
variable (north cols lofts wrong bx bY sl sh lw lg lh hours dark : Int) (east : List Int) (svs : List Sv) (n k : Nat) (h f : Nat → Nat → Int) (ea sa ha fa : Option Addr) (ec sc hc fc : Nat) (w : World)
set_option maxRecDepth 100000 in
set_option maxHeartbeats 4000000 in
theorem EarlyLaw_any (L : Laid east svs n k h f ea sa ha fa w) (home minute to px py hr : Int) (hto : -9223372036854775808 ≤ to ∧ to ≤ 9223372036854775807) : Calls Try.prog 9 #[.agg #[.int .i64 north, .int .i64 cols, .slice ea east.length ec, .int .i64 lofts, .slice sa svs.length sc, .int .i64 wrong, .int .i64 bx, .int .i64 bY, .slice ha n hc, .int .i64 sl, .int .i64 sh, .slice fa k fc, .int .i64 lw, .int .i64 lg, .int .i64 lh, .int .i64 hours, .int .i64 dark], .agg #[.int .i64 home, .int .i64 minute, .int .i64 to, .int .i64 px, .int .i64 py, .int .i64 hr]] w fun e w' => e = .returned (.bool true) ∧ G w w' := by
  have hV := fun (W : World) (hW : G w W) => valid_any north cols lofts wrong bx bY sl sh lw lg lh hours dark east svs n k h f ea sa ha fa ec sc hc fc W (L.keep hW) home minute
  by_cases hp : (COk north cols lofts wrong bx bY sl sh lw lg lh hours dark east svs n k h f ∧ (0 ≤ home ∧ home < n) ∧ (0 : Int) ≤ minute ∧ minute ≤ (9999 : Int)) ∧ ¬ OffE minute to
  · obtain ⟨hp, hoff⟩ := hp
    obtain ⟨r, hv, hok, hrn, hrk, hre⟩ := to_Rl north cols lofts wrong bx bY sl sh lw lg lh hours dark east svs n k h f ea sa ha fa ec sc hc fc w L hp.1
    unfold OffE at hoff
    obtain ⟨i, rfl⟩ : ∃ i : Nat, home = i := ⟨home.toNat, by omega⟩
    obtain ⟨m, rfl⟩ : ∃ m : Nat, minute = m := ⟨minute.toNat, by omega⟩
    obtain ⟨b, rfl⟩ : ∃ b : Nat, to = b := ⟨to.toNat, by omega⟩
    rw [← hv] at hV ⊢
    have hi : i < r.n := by omega
    refine Early_walk r.v i m b r.n px py hr r.err (r.safe i m) (lightB r) r.blk (flyB r) w (rIs r) (by omega) (by omega) (by omega) (by have := hok.nums.many; omega) (err_cases r)
      (fun W hW => (hV W hW).mono fun e w' hh => by obtain ⟨b, h1, _, h2⟩ := hh; exact ⟨b, h1, h2⟩) (fun W hW => rFirst_ok (hok.keep hW) (by omega) (by omega)) (fun W hW => rSafe_ok (hok.keep hW) hi (by omega))
      (fun m W hm hW => rBlocks_ok (hok.keep hW) hm) (fun m W hm hW => Light_any (hok.keep hW) (by omega)) (fun m => ?_) (named r hi)
    rw [flyB_eq hok.nums m, bks_len0]
  · refine EarlyOut_walk #[.int .i64 north, .int .i64 cols, .slice ea east.length ec, .int .i64 lofts, .slice sa svs.length sc, .int .i64 wrong, .int .i64 bx, .int .i64 bY, .slice ha n hc, .int .i64 sl, .int .i64 sh, .slice fa k fc, .int .i64 lw, .int .i64 lg, .int .i64 lh, .int .i64 hours, .int .i64 dark] home minute to px py hr w isRelV hto (fun W hW => (hV W hW).mono fun e w' hh => ?_)
    obtain ⟨b, h1, h2, h3⟩ := hh
    refine ⟨b, h1, fun hb => ?_, h3⟩
    have h4 := h2 hb
    exact ⟨h4.2.2, Classical.byContradiction fun hno => hp ⟨h4, hno⟩⟩
end
end Go.Proofs.Ytcekdljjmfkacaa
