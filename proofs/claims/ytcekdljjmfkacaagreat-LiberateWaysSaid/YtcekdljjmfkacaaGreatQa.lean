import Derived.Test.YtcekdljjmfkacaaGreatOw
set_option linter.unusedSimpArgs false
set_option linter.unusedVariables false
namespace Go.Proofs.YtcekdljjmfkacaaGreat
open Go.RowKit Go.Shelf
attribute [local go_sem] Oper.semAt_some wide_fn wide_dep wideR_fn wideR_dep
theorem rPasses_ok {r : Rl} {w : World} (h : r.Ok w) {i m : Nat} (hi : i < r.n) (hm : m ≤ 9999) : Calls Tryz.prog 13 #[.agg r.v, .int .i64 (i : Nat), .int .i64 (m : Nat)] w (PaPost w (spV r.north r.east (r.P i) r.sl r.sh m (r.ns i)) (r.ns i)) := by
  have h0 : r.h i 0 = ((r.hx i : Nat) : Int) := rfl
  have h1 : r.h i 1 = ((r.hy i : Nat) : Int) := rfl
  have := Passes_ok r.north r.wrong r.lw r.lg r.lh r.hours r.dark r.cols r.lofts r.bx r.bY (r.hx i) (r.hy i) r.sl r.sh m i r.east r.svs r.n r.k r.h r.f r.ea r.sa r.ha r.fa r.ec r.sc r.hc r.fc w h.he h.hs h.hk h.hr h.hH h.hF h.hk12 h.hfo hi h0 h1 hm
  rw [r.ns_eq i]
  exact this
theorem rLen16 {r : Rl} {w : World} (h : r.Ok w) {i j : Nat} (hi : i < r.n) (hj : j + 1 < r.ns i) : Calls Tryz.prog 78 #[.agg #[.int .i64 r.north, .int .i64 (r.cols : Nat), .slice r.ea r.east.length r.ec, .int .i64 (r.lofts : Nat), .slice r.sa r.svs.length r.sc, .int .i64 r.wrong], .agg #[.int .i64 (((r.P i).getD j (0, 0)).1 : Nat), .int .i64 (((r.P i).getD j (0, 0)).2 : Nat)], .agg #[.int .i64 (((r.P i).getD (j + 1) (0, 0)).1 : Nat), .int .i64 (((r.P i).getD (j + 1) (0, 0)).2 : Nat)], .int .i64 0] w fun e w' => e = .returned (.tuple #[.int .i64 (lenS r.north r.east (r.P i) j : Nat), .int .i64 0]) ∧ G w w' := by
  have hN := h.nums
  have hl2 := (checkE_zero h.hk).2.1
  have h1 := Rl.P_in hN hi (show j < r.ns i by omega)
  have h2 := Rl.P_in hN hi hj
  have hr := hN.rows
  have := Length_ok (ec := r.ec) (sc := r.sc) 0 ((r.P i).getD j (0, 0)).2 ((r.P i).getD (j + 1) (0, 0)).2 h.he h.hs (by omega) (by omega) h.hk (by omega) (plB h1.1 h1.2) (plB h2.1 h2.2)
  have hmin : min (j + 1) ((r.P i).length - 1) = j + 1 := by have : j + 1 < (r.P i).length := hj; omega
  unfold lenS
  rw [hmin]
  exact this
/-- the last place of the first k+1 that is not farther than what was flown -/
def atL (north : Int) (east : List Int) (P : List (Nat × Nat)) (x : Nat) : Nat → Nat
  | 0 => 0
  | k + 1 => if farL north east P (k + 1) ≤ x then k + 1 else atL north east P x k
theorem atL_le (north : Int) (east : List Int) (P : List (Nat × Nat)) (x k : Nat) : atL north east P x k ≤ k := by
  induction k with
  | zero => exact Nat.le_refl _
  | succ k ih => unfold atL; split <;> omega
theorem atL_far (north : Int) (east : List Int) (P : List (Nat × Nat)) (x k : Nat) : farL north east P (atL north east P x k) ≤ x := by
  induction k with
  | zero => show farL north east P 0 ≤ x; simp [farL]
  | succ k ih => unfold atL; split <;> assumption
theorem atL_next (north : Int) (east : List Int) (P : List (Nat × Nat)) (x k : Nat) (h : x < farL north east P k) : atL north east P x k < k ∧ x < farL north east P (atL north east P x k + 1) := by
  induction k with
  | zero => simp [farL] at h
  | succ k ih =>
    unfold atL
    rw [if_neg (by omega)]
    by_cases hk : x < farL north east P k
    · have := ih hk; omega
    · have he : atL north east P x k = k := by
        cases k with
        | zero => rfl
        | succ k => unfold atL; rw [if_pos (by omega)]
      rw [he]
      exact ⟨by omega, h⟩
/-- home was reached at the earliest before -/
theorem flight_home {far sh A x : Nat} (hs : 1 ≤ sh) (h1 : far ≤ x) (h2 : x ≤ A * sh) : far / sh ≤ A := by
  have : far / sh ≤ A * sh / sh := Nat.div_le_div_right (by omega)
  rwa [Nat.mul_div_cancel _ (by omega)] at this
/-- a place that is left later is not left before -/
theorem flight_high {far sl A x : Nat} (hs : 1 ≤ sl) (h1 : x < far) (h2 : A * sl ≤ x) : A ≤ (far + sl - 1) / sl := by
  have : A * sl / sl ≤ (far + sl - 1) / sl := Nat.div_le_div_right (by omega)
  rwa [Nat.mul_div_cancel _ (by omega)] at this
theorem flight_at (north : Int) (east : List Int) (P : List (Nat × Nat)) {sl sh A x k : Nat} (hl : 1 ≤ sl) (hh : 1 ≤ sh) (h1 : A * sl ≤ x) (h2 : x ≤ A * sh) (hk : x < farL north east P k) :
    atL north east P x k < k ∧ loT north east P sh (atL north east P x k) ≤ A ∧ A ≤ hiT north east P sl (atL north east P x k) := by
  obtain ⟨a, b⟩ := atL_next north east P x k hk
  refine ⟨a, flight_home hh (atL_far north east P x k) h2, ?_⟩
  rw [farL_succ] at b
  exact flight_high hl b h1
end Go.Proofs.YtcekdljjmfkacaaGreat
