import Derived.Laws.StructEq
import Derived.Test.YtpjfdfddcnocpaaCa
set_option linter.unusedSimpArgs false
set_option linter.unusedVariables false
namespace Go.Proofs.Ytpjfdfddcnocpaa
open Go.RowKit

def isPlaceB (cols : Int) (rows : Nat) (x y : Int) : Bool := isInB x 0 (cols - 1) && isInB y 0 (rows - 1)

set_option maxHeartbeats 1000000 in
theorem isPlace_any (north cols lofts wrong x y : Int) (ea : Option Addr) (el ec : Nat) (s : Value) (w : World) (hc : 0 ≤ cols ∧ cols ≤ 9223372036854775807) (hel : el ≤ 9223372036854775807) :
    Calls Try.prog 54 #[.agg #[.int .i64 north, .int .i64 cols, .slice ea el ec, .int .i64 lofts, s, .int .i64 wrong], .agg #[.int .i64 x, .int .i64 y]] w fun e w' =>
    e = .returned (.bool (isPlaceB cols el x y)) ∧ G w w' := by
  cases h1 : isInB x 0 (cols - 1)
  all_goals
    go_enter Try.func54, Try.ntmps54
    go_wp2_with fail
    have hG : G w ((w.alloc (.cells #[.int .i64 north, .int .i64 cols, .slice ea el ec, .int .i64 lofts, s, .int .i64 wrong] 25)).alloc (.cells #[.int .i64 x, .int .i64 y] 27)) := ((G.rf _).a _).a _
    have hz : w.heap.size + 1 < ((w.alloc (.cells #[.int .i64 north, .int .i64 cols, .slice ea el ec, .int .i64 lofts, s, .int .i64 wrong] 25)).alloc (.cells #[.int .i64 x, .int .i64 y] 27)).heap.size := by simp
    go_wp2_with (go_at_call 62; refine (isIn_any _ _ _ _).mono ?_; rintro e w' ⟨rfl, hbx⟩; have hcy := (bcellB hbx).1; have hsy : w.heap.size + 1 < w'.heap.size := (by have := hbx.size; omega); have hs0 : w.heap.size < w'.heap.size := (by omega); have hG := G.t hG hbx)
    go_ret
    exact ⟨by unfold isPlaceB; simp [*], hG⟩
theorem eq27 (a b c d : Int) (w : World) : (binOp .eql 27 (.agg #[.int .i64 a, .int .i64 b]) (.agg #[.int .i64 c, .int .i64 d])).run Try.prog w = .ok (.bool (a == c && b == d)) w := by
  have u3 := Try.underlying3
  have hS : Try.prog.underlying 27 = some (.struct (Try.prog.fieldsOf 27)) := by kernel_rfl
  have hp : Try.prog.stoodInHeld 27 = false := by kernel_rfl
  rw [run_eql_struct, show (10000 : Nat) = 9999 + 1 from rfl, run_equalIn_agg w 9999 27 _ _ hS hp]
  simp only [Program.fieldsOf, Try.underlying27]
  go_simp
  by_cases h1 : a = c <;> by_cases h2 : b = d <;> simp [h1, h2]
theorem eq46 (a b c d : Int) (w : World) : (binOp .eql 46 (.agg #[.int .i64 a, .int .i64 b]) (.agg #[.int .i64 c, .int .i64 d])).run Try.prog w = .ok (.bool (a == c && b == d)) w := by
  have u3 := Try.underlying3
  have hS : Try.prog.underlying 46 = some (.struct (Try.prog.fieldsOf 46)) := by kernel_rfl
  have hp : Try.prog.stoodInHeld 46 = false := by kernel_rfl
  rw [run_eql_struct, show (10000 : Nat) = 9999 + 1 from rfl, run_equalIn_agg w 9999 46 _ _ hS hp]
  simp only [Program.fieldsOf, Try.underlying46]
  go_simp
  by_cases h1 : a = c <;> by_cases h2 : b = d <;> simp [h1, h2]

def validSurveyB (cols : Int) (rows : Nat) (lofts loft kind xl xh yl yh ax ay dl dh : Int) : Bool :=
  isInB loft 0 (lofts - 1) &&
  (if kind = 1 then isSpanB xl xh (cols - 1) && (isSpanB yl yh (rows - 1) && ((ax == 0 && ay == 0) && (dl == 0 && dh == 0)))
   else if kind = 2 then (xl == 0 && xh == 0) && ((yl == 0 && yh == 0) && (isPlaceB cols rows ax ay && isSpanB dl dh 100000000))
   else false)
theorem and4 (a b c : Bool) : a = false ∨ (a = true ∧ b = false) ∨ (a = true ∧ b = true ∧ c = false) ∨ (a = true ∧ b = true ∧ c = true) := by
  cases a <;> cases b <;> cases c <;> simp

section
variable (north cols lofts wrong loft kind xl xh yl yh ax ay dl dh : Int) (ea : Option Addr) (el ec : Nat) (s : Value) (w : World)
def vsWorld : World := (w.alloc (.cells #[.int .i64 north, .int .i64 cols, .slice ea el ec, .int .i64 lofts, s, .int .i64 wrong] 25)).alloc (.cells #[.int .i64 loft, .int .i64 kind, .int .i64 xl, .int .i64 xh, .int .i64 yl, .int .i64 yh, .int .i64 ax, .int .i64 ay, .int .i64 dl, .int .i64 dh] 56)
abbrev VsPost : Prop := Calls Try.prog 67 #[.agg #[.int .i64 north, .int .i64 cols, .slice ea el ec, .int .i64 lofts, s, .int .i64 wrong], .agg #[.int .i64 loft, .int .i64 kind, .int .i64 xl, .int .i64 xh, .int .i64 yl, .int .i64 yh, .int .i64 ax, .int .i64 ay, .int .i64 dl, .int .i64 dh]] w fun e w' =>
    e = .returned (.bool (validSurveyB cols el lofts loft kind xl xh yl yh ax ay dl dh)) ∧ G w w'
end

set_option maxHeartbeats 4000000 in
theorem validSurvey_any (north cols lofts wrong loft kind xl xh yl yh ax ay dl dh : Int) (ea : Option Addr) (el ec : Nat) (s : Value) (w : World)
    (hc : 0 ≤ cols ∧ cols ≤ 9223372036854775807) (hel : el ≤ 9223372036854775807) (hlo : 0 ≤ lofts ∧ lofts ≤ 9223372036854775807) :
    VsPost north cols lofts wrong loft kind xl xh yl yh ax ay dl dh ea el ec s w := by
  unfold VsPost
  have hG : G w ((w.alloc (.cells #[.int .i64 north, .int .i64 cols, .slice ea el ec, .int .i64 lofts, s, .int .i64 wrong] 25)).alloc (.cells #[.int .i64 loft, .int .i64 kind, .int .i64 xl, .int .i64 xh, .int .i64 yl, .int .i64 yh, .int .i64 ax, .int .i64 ay, .int .i64 dl, .int .i64 dh] 56)) := ((G.rf _).a _).a _
  have hz : w.heap.size + 1 < ((w.alloc (.cells #[.int .i64 north, .int .i64 cols, .slice ea el ec, .int .i64 lofts, s, .int .i64 wrong] 25)).alloc (.cells #[.int .i64 loft, .int .i64 kind, .int .i64 xl, .int .i64 xh, .int .i64 yl, .int .i64 yh, .int .i64 ax, .int .i64 ay, .int .i64 dl, .int .i64 dh] 56)).heap.size := by simp
  have q27 := eq27
  have q46 := eq46
  have key : (isInB loft 0 (lofts - 1) = false) ∨ (isInB loft 0 (lofts - 1) = true ∧ kind = 1) ∨ (isInB loft 0 (lofts - 1) = true ∧ kind = 2) ∨ (isInB loft 0 (lofts - 1) = true ∧ (kind == 1) = false ∧ (kind == 2) = false) := by
    cases isInB loft 0 (lofts - 1)
    · simp
    · by_cases h1 : kind = 1
      · simp [h1]
      · by_cases h2 : kind = 2
        · simp [h2]
        · simp [h1, h2]
  rcases key with h0 | ⟨h0, rfl⟩ | ⟨h0, rfl⟩ | ⟨h0, h1, h2⟩
  · have HV : Hid (validSurveyB cols el lofts loft kind xl xh yl yh ax ay dl dh = false) := by unfold validSurveyB Hid; rw [h0]; rfl
    go_enter Try.func67, Try.ntmps67
    go_wp2_with (go_at_call 86; refine (isLoft_any _ _ _ _ _ _ _ _ hlo).mono ?_; rintro e w' ⟨rfl, hbx⟩; have hcy := (bcellB hbx).1; have hsy : w.heap.size + 1 < w'.heap.size := (by have := hbx.size; omega); have hs0 : w.heap.size < w'.heap.size := (by omega); have hG := G.t hG hbx)
    go_ret
    exact ⟨by rw [HV.out]; rfl, hG⟩
  · have HV : Hid (validSurveyB cols el lofts loft 1 xl xh yl yh ax ay dl dh = (isSpanB xl xh (cols - 1) && (isSpanB yl yh (el - 1) && ((ax == 0 && ay == 0) && (dl == 0 && dh == 0))))) := by
      unfold validSurveyB Hid; rw [h0, if_pos rfl]; rfl
    rcases and4 (isSpanB xl xh (cols - 1)) (isSpanB yl yh (el - 1)) (ax == 0 && ay == 0) with h1 | ⟨h1, h2⟩ | ⟨h1, h2, h3⟩ | ⟨h1, h2, h3⟩
    all_goals
      go_enter Try.func67, Try.ntmps67
      go_wp2_with (first | (go_at_call 86; refine (isLoft_any _ _ _ _ _ _ _ _ hlo).mono ?_; rintro e w' ⟨rfl, hbx⟩; have hcy := (bcellB hbx).1; have hsy : w.heap.size + 1 < w'.heap.size := (by have := hbx.size; omega); have hs0 : w.heap.size < w'.heap.size := (by omega); have hG := G.t hG hbx) | (go_at_call 97; refine (isSpan_any _ _ _ _).mono ?_; rintro e w' ⟨rfl, hbx⟩; have hcy := (bcellB hbx).1; have hsy : w.heap.size + 1 < w'.heap.size := (by have := hbx.size; omega); have hs0 : w.heap.size < w'.heap.size := (by omega); have hG := G.t hG hbx) | (go_at_call 54; refine (isPlace_any _ _ _ _ _ _ _ _ _ _ _ hc hel).mono ?_; rintro e w' ⟨rfl, hbx⟩; have hcy := (bcellB hbx).1; have hsy : w.heap.size + 1 < w'.heap.size := (by have := hbx.size; omega); have hs0 : w.heap.size < w'.heap.size := (by omega); have hG := G.t hG hbx))
      go_ret
      exact ⟨by rw [HV.out]; simp [*], hG⟩
  · have HV : Hid (validSurveyB cols el lofts loft 2 xl xh yl yh ax ay dl dh = ((xl == 0 && xh == 0) && ((yl == 0 && yh == 0) && (isPlaceB cols el ax ay && isSpanB dl dh 100000000)))) := by
      unfold validSurveyB Hid; rw [h0, if_neg (by decide), if_pos rfl]; rfl
    rcases and4 (xl == 0 && xh == 0) (yl == 0 && yh == 0) (isPlaceB cols el ax ay) with h1 | ⟨h1, h2⟩ | ⟨h1, h2, h3⟩ | ⟨h1, h2, h3⟩
    all_goals
      go_enter Try.func67, Try.ntmps67
      go_wp2_with (first | (go_at_call 86; refine (isLoft_any _ _ _ _ _ _ _ _ hlo).mono ?_; rintro e w' ⟨rfl, hbx⟩; have hcy := (bcellB hbx).1; have hsy : w.heap.size + 1 < w'.heap.size := (by have := hbx.size; omega); have hs0 : w.heap.size < w'.heap.size := (by omega); have hG := G.t hG hbx) | (go_at_call 97; refine (isSpan_any _ _ _ _).mono ?_; rintro e w' ⟨rfl, hbx⟩; have hcy := (bcellB hbx).1; have hsy : w.heap.size + 1 < w'.heap.size := (by have := hbx.size; omega); have hs0 : w.heap.size < w'.heap.size := (by omega); have hG := G.t hG hbx) | (go_at_call 54; refine (isPlace_any _ _ _ _ _ _ _ _ _ _ _ hc hel).mono ?_; rintro e w' ⟨rfl, hbx⟩; have hcy := (bcellB hbx).1; have hsy : w.heap.size + 1 < w'.heap.size := (by have := hbx.size; omega); have hs0 : w.heap.size < w'.heap.size := (by omega); have hG := G.t hG hbx))
      go_ret
      exact ⟨by rw [HV.out]; simp [*], hG⟩
  · have HV : Hid (validSurveyB cols el lofts loft kind xl xh yl yh ax ay dl dh = false) := by
      unfold validSurveyB Hid; rw [h0, if_neg (by simpa using h1), if_neg (by simpa using h2)]; rfl
    go_enter Try.func67, Try.ntmps67
    go_wp2_with (go_at_call 86; refine (isLoft_any _ _ _ _ _ _ _ _ hlo).mono ?_; rintro e w' ⟨rfl, hbx⟩; have hcy := (bcellB hbx).1; have hsy : w.heap.size + 1 < w'.heap.size := (by have := hbx.size; omega); have hs0 : w.heap.size < w'.heap.size := (by omega); have hG := G.t hG hbx)
    go_ret
    exact ⟨by rw [HV.out]; rfl, hG⟩
end Go.Proofs.Ytpjfdfddcnocpaa
