import Derived.Test.YtcekdljjmfkacaaKa
set_option linter.unusedSimpArgs false
set_option linter.unusedVariables false
namespace Go.Proofs.Ytcekdljjmfkacaa
open Go.RowKit
attribute [local go_sem] Oper.semAt_some

theorem lIn_any (n lo hi : Int) (w : World) : Calls Try.prog 74 #[.int .i64 n, .agg #[.int .i64 lo, .int .i64 hi]] w fun e w' =>
    e = .returned (.bool (isInB n lo hi)) ∧ G w w' := by
  by_cases h1 : lo ≤ n
  · go_enter Try.func74, Try.ntmps74
    go_wp2
    go_ret
    exact ⟨by simp [isInB, h1], (G.rf _).a _⟩
  · go_enter Try.func74, Try.ntmps74
    go_wp2
    go_ret
    exact ⟨by unfold isInB; rw [decide_eq_false (by omega)]; rfl, (G.rf _).a _⟩
theorem lUpTo_any (n last : Int) (w : World) : Calls Try.prog 45 #[.int .i64 n, .int .i64 last] w fun e w' => e = .returned (.bool (isInB n 0 last)) ∧ G w w' := by
  go_enter Try.func45, Try.ntmps45
  go_wp2_with (go_at_call 74; refine (lIn_any _ _ _ _).mono ?_; rintro e w' ⟨rfl, hG⟩)
  go_ret
  exact ⟨rfl, hG⟩
theorem lMinute_any (n : Int) (w : World) : Calls Try.prog 35 #[.int .i64 n] w fun e w' => e = .returned (.bool (isInB n 0 9999)) ∧ G w w' := by
  go_enter Try.func35, Try.ntmps35
  go_wp2_with (go_at_call 45; refine (lUpTo_any _ _ _).mono ?_; rintro e w' ⟨rfl, hG⟩)
  go_ret
  exact ⟨rfl, hG⟩
set_option maxHeartbeats 1000000 in
theorem lPlace_any (north cols lofts wrong x y : Int) (ea : Option Addr) (el ec : Nat) (s : Value) (w : World) (hc : 0 ≤ cols ∧ cols ≤ 9223372036854775807) (hel : el ≤ 9223372036854775807) :
    Calls Try.prog 44 #[.agg #[.int .i64 north, .int .i64 cols, .slice ea el ec, .int .i64 lofts, s, .int .i64 wrong], .agg #[.int .i64 x, .int .i64 y]] w fun e w' =>
    e = .returned (.bool (isPlaceB cols el x y)) ∧ G w w' := by
  have x1 : IntKind.i64.wrap (cols - 1) = cols - 1 := IntWalk.i64_in _ (by omega)
  have x2 : IntKind.i64.wrap ((el : Int) - 1) = el - 1 := IntWalk.i64_in _ (by omega)
  have g0 : G w ((w.alloc (.cells #[.int .i64 north, .int .i64 cols, .slice ea el ec, .int .i64 lofts, s, .int .i64 wrong] 25)).alloc (.cells #[.int .i64 x, .int .i64 y] 27)) := ((G.rf _).a _).a _
  have b0 : Blk ((w.alloc (.cells #[.int .i64 north, .int .i64 cols, .slice ea el ec, .int .i64 lofts, s, .int .i64 wrong] 25)).alloc (.cells #[.int .i64 x, .int .i64 y] 27)) w.heap.size 25 _ := (Blk.new w _ _).alloc _
  have b1 : Blk ((w.alloc (.cells #[.int .i64 north, .int .i64 cols, .slice ea el ec, .int .i64 lofts, s, .int .i64 wrong] 25)).alloc (.cells #[.int .i64 x, .int .i64 y] 27)) (w.heap.size + 1) 27 _ := Blk.new1 w _ _ _
  have HU := Lib.hid (fun (W : World) => lUpTo_any x (cols - 1) W)
  have HV := Lib.hid (fun (W : World) => lUpTo_any y ((el : Int) - 1) W)
  have he : isPlaceB cols el x y = (isInB x 0 (cols - 1) && isInB y 0 ((el : Int) - 1)) := rfl
  rw [he]
  clear he
  generalize isInB x 0 (cols - 1) = A at *
  generalize isInB y 0 ((el : Int) - 1) = B at *
  cases A
  all_goals
    go_enter Try.func44, Try.ntmps44
    go_wp2_with (first | (go_at_call 45; refine (HU.out _).mono ?_; rintro e w1 ⟨rfl, hG1⟩; clear HU; replace b0 := b0.keep hG1; replace b1 := b1.keep hG1; replace g0 := g0.t hG1; clear hG1; have m2 := b0.cell 2; have p1 := b1.cell 1; have l0 := b0.lt; have l1 := b1.lt) | (go_at_call 45; refine (HV.out _).mono ?_; rintro e w2 ⟨rfl, hG1⟩; replace g0 := g0.t hG1; clear hG1))
    go_ret
    exact ⟨rfl, g0⟩
def spanB (lo hi a b : Int) : Bool := decide (a ≤ lo) && (decide (lo ≤ hi) && decide (hi ≤ b))
theorem lSpan_any (lo hi a b : Int) (w : World) : Calls Try.prog 83 #[.agg #[.int .i64 lo, .int .i64 hi], .agg #[.int .i64 a, .int .i64 b]] w fun e w' => e = .returned (.bool (spanB lo hi a b)) ∧ G w w' := by
  by_cases h1 : a ≤ lo
  · by_cases h2 : lo ≤ hi
    · have HV : Hid (spanB lo hi a b = decide (hi ≤ b)) := by unfold spanB Hid; simp [h1, h2]
      go_enter Try.func83, Try.ntmps83
      go_wp2
      go_ret
      exact ⟨by rw [HV.out]; rfl, ((G.rf _).a _).a _⟩
    · have HV : Hid (spanB lo hi a b = false) := by unfold spanB Hid; simp [h2]
      go_enter Try.func83, Try.ntmps83
      go_wp2
      go_ret
      exact ⟨by rw [HV.out]; rfl, ((G.rf _).a _).a _⟩
  · have HV : Hid (spanB lo hi a b = false) := by unfold spanB Hid; simp [h1]
    go_enter Try.func83, Try.ntmps83
    go_wp2
    go_ret
    exact ⟨by rw [HV.out]; rfl, ((G.rf _).a _).a _⟩
theorem wrap_div (a b : Nat) (ha : a ≤ 9000000000000000000) : wrap64 ((a : Int) / b) = ((a / b : Nat) : Int) := by
  have h : a / b ≤ a := Nat.div_le_self _ _
  have e : (a : Int) / b = ((a / b : Nat) : Int) := by simp
  rw [e]
  generalize a / b = q at *
  exact IntWalk.wrap64_in _ (by omega)
theorem lRoundedUp_any (a b : Nat) (w : World) (ha : a ≤ 1000000000000) (hb : 1 ≤ b ∧ b ≤ 3000000) : Calls Try.prog 61 #[.int .i64 a, .int .i64 b] w fun e w' => e = .returned (.int .i64 ((a + b - 1) / b : Nat)) ∧ G w w' := by
  have x1 : IntKind.i64.wrap ((a : Int) + b) = a + b := IntWalk.i64_in _ (by omega)
  have x2 : IntKind.i64.wrap ((a : Int) + b - 1) = ((a + b - 1 : Nat) : Int) := by rw [IntWalk.i64_in _ (by omega)]; omega
  have x3 := wrap_div (a + b - 1) b (by omega)
  have hb0 : ((b : Int) == 0) = false := by simp; omega
  go_enter Try.func61, Try.ntmps61
  go_wp2
  go_ret
  exact ⟨by show Ending.returned (.int .i64 (wrap64 (((a + b - 1 : Nat) : Int) / b))) = _; rw [x3], G.rf _⟩
end Go.Proofs.Ytcekdljjmfkacaa
