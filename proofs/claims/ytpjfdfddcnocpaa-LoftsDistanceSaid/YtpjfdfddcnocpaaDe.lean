import Derived.Test.YtpjfdfddcnocpaaDb
import Derived.Test.YtpjfdfddcnocpaaQb
set_option linter.unusedSimpArgs false
set_option linter.unusedVariables false
namespace Go.Proofs.Ytpjfdfddcnocpaa
open Go.RowKit
attribute [local go_sem] Oper.semAt_some

theorem info36 : (Try.prog.info? 36).map (fun i => (i.zero, i.size, i.bytes)) = some (some (.slice none 0 0), 1, 24) := by kernel_rfl
/-- some places, and how many surveys are wrong at least -/
abbrev TRow := List (Nat × Nat) × Int
/-- the latest place before the i-th at which the same loft stands, -1 if there is none -/
def oldI (ls : List Nat) (i : Nat) : Nat → Int
  | 0 => -1
  | k + 1 => if ls.getD k 0 = ls.getD i 0 then (k : Int) else oldI ls i k
theorem oldI_succ (ls : List Nat) (i k : Nat) : oldI ls i (k + 1) = if ls.getD k 0 = ls.getD i 0 then (k : Int) else oldI ls i k := rfl
theorem oldI_bd (ls : List Nat) (i : Nat) : ∀ k, -1 ≤ oldI ls i k ∧ oldI ls i k < k
  | 0 => by simp [oldI]
  | k + 1 => by
    have := oldI_bd ls i k
    rw [oldI_succ]
    split <;> omega
section
variable (c : Nat → Nat × Nat → Nat) (low : Nat → Nat) (wrong : Int)
def nT (l : Nat) (old : Int) (x : TRow) (p : Nat × Nat) : Int := if 0 ≤ old then x.2 else x.2 - (low l : Int) + (c l p : Int)
def okT (l : Nat) (old : Int) (x : TRow) (p : Nat × Nat) : Bool := decide (nT c low l old x p ≤ wrong) && (decide (old < 0) || x.1.getD old.toNat (0, 0) == p)
def stpT (l : Nat) (old : Int) (x : TRow) (Q : List (Nat × Nat)) : List TRow := (Q.filter (okT c low wrong l old x)).map fun p => (x.1 ++ [p], nT c low l old x p)
def stepT (l : Nat) (old : Int) (T : List TRow) (P : List (Nat × Nat)) : List TRow := T.flatMap fun x => stpT c low wrong l old x P
def TT (ls : List Nat) (P : List (Nat × Nat)) (F : Int) : Nat → List TRow
  | 0 => [([], F)]
  | i + 1 => stepT c low wrong (ls.getD i 0) (oldI ls i i) (TT ls P F i) P
theorem TT_succ (ls : List Nat) (P : List (Nat × Nat)) (F : Int) (i : Nat) : TT c low wrong ls P F (i + 1) = stepT c low wrong (ls.getD i 0) (oldI ls i i) (TT c low wrong ls P F i) P := rfl
theorem stpT_snoc (l : Nat) (old : Int) (x : TRow) (P : List (Nat × Nat)) (k : Nat) (hk : k < P.length) :
    stpT c low wrong l old x (P.take (k + 1)) = if okT c low wrong l old x (P.getD k (0, 0)) then stpT c low wrong l old x (P.take k) ++ [(x.1 ++ [P.getD k (0, 0)], nT c low l old x (P.getD k (0, 0)))] else stpT c low wrong l old x (P.take k) := by
  unfold stpT
  rw [filter_snoc _ P k (0, 0) hk]
  split
  · rw [List.map_append]; rfl
  · rfl
theorem stepT_snoc (l : Nat) (old : Int) (T : List TRow) (P : List (Nat × Nat)) (r : Nat) (hr : r < T.length) :
    stepT c low wrong l old (T.take (r + 1)) P = stepT c low wrong l old (T.take r) P ++ stpT c low wrong l old (T.getD r ([], 0)) P := by
  unfold stepT
  rw [List.take_succ_eq_append_getElem hr, List.flatMap_append]
  simp [hr]
theorem stpT_len (l : Nat) (old : Int) (x : TRow) (Q : List (Nat × Nat)) : (stpT c low wrong l old x Q).length ≤ Q.length := by
  unfold stpT
  rw [List.length_map]
  exact List.length_filter_le _ _
theorem stepT_len (l : Nat) (old : Int) (P : List (Nat × Nat)) : ∀ T : List TRow, (stepT c low wrong l old T P).length ≤ T.length * P.length
  | [] => by simp [stepT]
  | x :: T => by
    have ih := stepT_len l old P T
    have h := stpT_len c low wrong l old x P
    have e : stepT c low wrong l old (x :: T) P = stpT c low wrong l old x P ++ stepT c low wrong l old T P := by simp [stepT]
    rw [e, List.length_append, List.length_cons, Nat.succ_mul]
    omega
theorem TT_len (ls : List Nat) (P : List (Nat × Nat)) (F : Int) : ∀ i, (TT c low wrong ls P F i).length ≤ P.length ^ i
  | 0 => by simp [TT]
  | i + 1 => by
    rw [TT_succ]
    refine Nat.le_trans (stepT_len c low wrong _ _ P _) ?_
    rw [Nat.pow_succ]
    exact Nat.mul_le_mul_right _ (TT_len ls P F i)
theorem mem_stepT (l : Nat) (old : Int) (T : List TRow) (P : List (Nat × Nat)) (y : TRow) : y ∈ stepT c low wrong l old T P ↔ ∃ x ∈ T, ∃ p ∈ P, okT c low wrong l old x p = true ∧ (x.1 ++ [p], nT c low l old x p) = y := by
  simp [stepT, stpT, List.mem_flatMap, List.mem_map, List.mem_filter, and_assoc]
theorem TT_row {ls : List Nat} {P : List (Nat × Nat)} {F : Int} (hc : ∀ l p, c l p ≤ 16) (hl : ∀ l, low l ≤ 16) (hF : 0 ≤ F ∧ F ≤ 200) (hlc : ∀ l, ∀ p ∈ P, low l ≤ c l p) (hw : wrong ≤ 200) : ∀ i, ∀ x ∈ TT c low wrong ls P F i, x.1.length = i ∧ 0 ≤ x.2 ∧ x.2 ≤ 200 ∧ ∀ p ∈ x.1, p ∈ P
  | 0, x, hx => by
    have : x = ([], F) := by simpa [TT] using hx
    subst this
    exact ⟨rfl, hF.1, hF.2, by simp⟩
  | i + 1, y, hy => by
    rw [TT_succ, mem_stepT] at hy
    obtain ⟨x, hx, p, hp, hok, rfl⟩ := hy
    obtain ⟨h1, h2, h3, h4⟩ := TT_row hc hl hF hlc hw i x hx
    unfold okT at hok
    rw [Bool.and_eq_true] at hok
    have hok1 := of_decide_eq_true hok.1
    have := hc (ls.getD i 0) p
    have := hl (ls.getD i 0)
    have := hlc (ls.getD i 0) p hp
    refine ⟨by simp [h1], ?_, by simp only; omega, ?_⟩
    · simp only
      unfold nT
      split <;> omega
    · intro q hq
      rcases List.mem_append.1 hq with hq | hq
      · exact h4 q hq
      · rw [List.mem_singleton.1 hq]; exact hp
end
/-- rows of places that are there so far -/
def TRows (W : World) (base : Nat) (v : Value) (R : List (List (Nat × Nat))) : Prop :=
  ∃ vs : List Value, vs.length = R.length ∧ W.ownsRow base 36 1 v R.length vs ∧ ∀ j, j < R.length → ∃ b, W.ownsRow b 27 2 (vs.getD j undef) (R.getD j []).length (ptsV (R.getD j []))
theorem TRows.keep {W W' : World} {base : Nat} {v : Value} {R : List (List (Nat × Nat))} (h : TRows W base v R) (hG : G W W') : TRows W' base v R := by
  obtain ⟨vs, h1, h2, h3⟩ := h
  exact ⟨vs, h1, own_G h2 hG, fun j hj => by obtain ⟨b, hb⟩ := h3 j hj; exact ⟨b, own_G hb hG⟩⟩
theorem TRows.nil (W : World) (base : Nat) : TRows W base (.slice none 0 0) [] := ⟨[], rfl, World.ownsRow_nil _ _ _ _, by simp⟩
theorem TRows.snoc {WX W4 : World} {base b : Nat} {v v' u : Value} {R : List (List (Nat × Nat))} {row : List (Nat × Nat)} {vs : List Value} (h1 : vs.length = R.length) (h2 : WX.ownsRow base 36 1 v R.length vs) (h3 : ∀ j, j < R.length → ∃ b, WX.ownsRow b 27 2 (vs.getD j undef) (R.getD j []).length (ptsV (R.getD j []))) (hu : WX.ownsRow b 27 2 u row.length (ptsV row))
    (hown : W4.ownsRow base 36 1 v' (R.length + 1) (vs ++ [u])) (hg : WX.grownBy W4 v.ownBlock) : TRows W4 base v' (R ++ [row]) := by
  refine ⟨vs ++ [u], by simp [h1], by rw [List.length_append]; exact hown, fun j hj => ?_⟩
  rw [List.length_append, List.length_singleton] at hj
  by_cases hjk : j < R.length
  · obtain ⟨b', hb'⟩ := h3 j hjk
    have e : (vs ++ [u]).getD j undef = vs.getD j undef := by
      have : j < vs.length := by omega
      simp [List.getElem?_append_left this]
    have e2 : (R ++ [row]).getD j [] = R.getD j [] := by simp [List.getElem?_append_left hjk]
    exact ⟨b', by rw [e, e2]; exact hb'.kept hg (own_own hb' h2 (by decide))⟩
  · obtain rfl : j = R.length := by omega
    have e : (vs ++ [u]).getD R.length undef = u := by
      rw [← h1]; simp
    have e2 : (R ++ [row]).getD R.length [] = row := by simp
    exact ⟨b, by rw [e, e2]; exact hu.kept hg (own_own hu h2 (by decide))⟩
/-- the cells of rows that are there: for each a slice of its places -/
def TAt (W : World) (g : Nat) (R : List (List (Nat × Nat))) : Prop := ∀ j, j < R.length → ∃ ra rc, W.cell? ⟨g, j, none⟩ = some (.slice ra (R.getD j []).length rc) ∧ (ra = none ∧ rc = 0 ∧ R.getD j [] = [] ∨ ∃ gj, ra = some ⟨gj, 0, none⟩ ∧ gj < W.heap.size ∧ PtsAt W gj (R.getD j []))
theorem TRows.at {W : World} {base : Nat} {v : Value} {R : List (List (Nat × Nat))} (h : TRows W base v R) (h0 : 0 < R.length) : ∃ g cap, v = .slice (some ⟨g, 0, none⟩) R.length cap ∧ g < W.heap.size ∧ TAt W g R := by
  obtain ⟨vs, h1, h2, h3⟩ := h
  obtain ⟨g, cap, cur, rfl, hb, hg, ht⟩ := own_some h2 h0
  refine ⟨g, cap, rfl, hg, fun j hj => ?_⟩
  obtain ⟨b, hr⟩ := h3 j hj
  have hc : W.cell? ⟨g, j, none⟩ = some (vs.getD j undef) := take_cell hb ht (by omega) (by simp [h1, hj])
  rcases hr.2 with ⟨e, e0⟩ | ⟨gj, cj, curj, e, _, hbj, _, _, _, htj⟩
  · rw [e] at hc
    have : R.getD j [] = [] := List.eq_nil_of_length_eq_zero (by omega)
    exact ⟨none, 0, by rw [hc, this]; rfl, .inl ⟨rfl, rfl, this⟩⟩
  · rw [e] at hc
    refine ⟨some ⟨gj, 0, none⟩, cj, hc, .inr ⟨gj, rfl, (Array.getElem?_eq_some_iff.1 hbj).1, fun i hi => ?_⟩⟩
    obtain ⟨p1, p2⟩ := pts_get (R.getD j []) i hi
    have hB : Blk W gj 27 curj := hbj
    exact ⟨take_cell hB htj (by omega) p1, take_cell hB htj (by omega) p2⟩
theorem TAt.keep {W W' : World} {g : Nat} {R : List (List (Nat × Nat))} (h : TAt W g R) (hg : g < W.heap.size) (hG : G W W') : TAt W' g R := fun j hj => by
  obtain ⟨ra, rc, h1, h2⟩ := h j hj
  refine ⟨ra, rc, ((bcellB hG).1 g _ hg).trans h1, ?_⟩
  rcases h2 with h2 | ⟨gj, e, hgj, hp⟩
  · exact .inl h2
  · exact .inr ⟨gj, e, Nat.lt_of_lt_of_le hgj hG.size, hp.keep hgj hG⟩
def intV (l : List Int) : List Value := l.map fun n => Value.int .i64 n
theorem intV_at {W : World} {base n : Nat} {v : Value} {l : List Int} (hn : n = l.length) (h : W.ownsRow base 3 1 v n (intV l)) (h0 : 0 < n) : ∃ g cap, v = .slice (some ⟨g, 0, none⟩) l.length cap ∧ g < W.heap.size ∧ ∀ j, j < l.length → W.cell? ⟨g, j, none⟩ = some (.int .i64 (l.getD j 0)) := by
  subst hn
  obtain ⟨g, cap, cur, rfl, hb, hg, ht⟩ := own_some h h0
  refine ⟨g, cap, rfl, hg, fun j hj => take_cell hb ht (by omega) ?_⟩
  simp [intV, hj]
end Go.Proofs.Ytpjfdfddcnocpaa
