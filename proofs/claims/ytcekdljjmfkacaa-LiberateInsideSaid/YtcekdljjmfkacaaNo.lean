import Derived.Test.YtcekdljjmfkacaaMb
set_option linter.unusedSimpArgs false
set_option linter.unusedVariables false
namespace Go.Proofs.Ytcekdljjmfkacaa
open Go.RowKit
attribute [local go_sem] Oper.semAt_some
/-- how many of the first n spans a minute is not in -/
def agN (c : Nat → Nat → Int) (mi : Int) (n : Nat) : Nat := (List.range n).countP fun i => !isInB mi (c i 0) (c i 1)
theorem agN_succ (c : Nat → Nat → Int) (mi : Int) (n : Nat) : agN c mi (n + 1) = agN c mi n + (if isInB mi (c n 0) (c n 1) = true then 0 else 1) := by
  unfold agN
  rw [List.range_succ, List.countP_append]
  cases h : isInB mi (c n 0) (c n 1) <;> simp [h]
theorem agN_le (c : Nat → Nat → Int) (mi : Int) (n : Nat) : agN c mi n ≤ n := by
  unfold agN
  have := List.countP_le_length (p := fun i => !isInB mi (c i 0) (c i 1)) (l := List.range n)
  simpa using this
section
variable (a : Option Addr) (cap n : Nat) (c : Nat → Nat → Int) (mi : Int) (w : World)
set_option maxHeartbeats 2000000 in
theorem contradicting_any (ha : RowAt w a n 2 c) (hn : n ≤ 1000) : Calls Try.prog 56 #[.slice a n cap, .int .i64 mi] w fun e w' => e = .returned (.int .i64 (agN c mi n : Nat)) ∧ G w w' := by
  have HI := Lib.hid (fun (x y z : Int) (W : World) => lIn_any x y z W)
  go_enter Try.func56, Try.ntmps56
  go_wp2_with fail
  go_loopw [5, 10] (fun v i wr => ∃ q : Nat, q ≤ n ∧ i = .int .i64 q ∧ v = .int .i64 (agN c mi q : Nat) ∧ G w wr) (fun _ i _ => n - (intOf i).toNat)
  case atStart => exact ⟨0, Nat.zero_le _, rfl, rfl, G.rf _⟩
  case round =>
    obtain ⟨q, hq, rfl, rfl, hG⟩ := hrel
    obtain ⟨wo, rfl⟩ : ∃ wo, wo = wr := ⟨_, rfl⟩
    by_cases hlt : q < n
    · have hki : (q : Int) < n := by omega
      rcases ha with h | ⟨g, off, rfl, hg, hcell⟩
      · omega
      have q0 := ((bcellB hG).1 g _ hg).trans (hcell q hlt 0 (by omega))
      rw [Nat.add_zero] at q0
      have q1 := ((bcellB hG).1 g _ hg).trans (hcell q hlt 1 (by omega))
      have lg := Nat.lt_of_lt_of_le hg hG.size
      have hs := agN_succ c mi q
      have hle := agN_le c mi q
      obtain ⟨k, hk⟩ : ∃ k, k = agN c mi q := ⟨_, rfl⟩
      rw [← hk] at hs hle ⊢
      have x1 : IntKind.i64.wrap ((k : Int) + 1) = ((k + 1 : Nat) : Int) := by rw [IntWalk.i64_in _ (by omega)]; rfl
      have HI2 := fun W : World => HI.out mi (c q 0) (c q 1) W
      have hGa : G wo (wo.alloc (.cells #[.int .i64 (c q 0), .int .i64 (c q 1)] 30)) := (G.rf _).a _
      clear hk hcell
      cases hb : isInB mi (c q 0) (c q 1)
      · rw [hb] at hs HI2
        have HS := Lib.hid hs
        have HI3 := Lib.hid HI2
        clear hs hb HI2
        go_wp2_with (go_at_call 74; refine (HI3.out _).mono ?_; rintro e w5 ⟨rfl, hG5⟩)
        go_roundw
        case rel => exact ⟨q + 1, by omega, by go_num, by rw [HS.out]; simp, (hG.t hGa).t hG5⟩
        case measure => simp [intOf]; omega
      · rw [hb] at hs HI2
        have HS := Lib.hid hs
        have HI3 := Lib.hid HI2
        clear hs hb HI2
        go_wp2_with (go_at_call 74; refine (HI3.out _).mono ?_; rintro e w5 ⟨rfl, hG5⟩)
        go_roundw
        case rel => exact ⟨q + 1, by omega, by go_num, by rw [HS.out]; simp, (hG.t hGa).t hG5⟩
        case measure => simp [intOf]; omega
    · obtain rfl : q = n := by omega
      have hki : ¬ ((q : Nat) : Int) < q := by omega
      go_wp2_with fail
      go_ret
      exact ⟨rfl, hG⟩
theorem clos82_any (x y : Int) : Calls Try.prog 82 #[.agg #[.int .i64 x, .int .i64 y]] w fun e w' => e = .returned (.bool (!spanB x y 0 9999)) ∧ G w w' := by
  have g0 : G w (w.alloc (.cells #[.int .i64 x, .int .i64 y] 30)) := (G.rf _).a _
  go_enter Try.func82, Try.ntmps82
  go_wp2_with (go_at_call 83; refine (lSpan_any _ _ _ _ _).mono ?_; rintro e w' ⟨rfl, hG⟩)
  go_ret
  exact ⟨rfl, g0.t hG⟩
def watchB (n : Nat) (c : Nat → Nat → Int) : Bool := isInB n 1 8 && !anyU (fun i => !spanB (c i 0) (c i 1) 0 9999) n
theorem validWatches_any (ha : RowAt w a n 2 c) : Calls Try.prog 55 #[.slice a n cap] w fun e w' => e = .returned (.bool (watchB n c)) ∧ G w w' := by
  cases h1 : isInB n 1 8
  · have HV : Hid (watchB n c = false) := by unfold watchB; rw [h1]; rfl
    go_enter Try.func55, Try.ntmps55
    go_wp2_with (go_at_call 74; refine (lIn_any _ _ _ _).mono ?_; rw [h1]; rintro e w' ⟨rfl, hG⟩)
    go_ret
    exact ⟨by rw [HV.out]; rfl, hG⟩
  · have hn : n ≤ 8 := by unfold isInB at h1; simp at h1; omega
    have HV : Hid (watchB n c = !anyU (fun i => !spanB (c i 0) (c i 1) 0 9999) n) := by unfold watchB; rw [h1]; rfl
    have HC := Lib.hid (fun (W : World) (hW : G w W) => CtSpan_any 82 (enters_of Try.func82 (by kernel_rfl) rfl) #[] W a cap n c (fun i => !spanB (c i 0) (c i 1) 0 9999) (by omega) (ha.below hW) (fun W' hW' i hi => clos82_any W' (c i 0) (c i 1)))
    go_enter Try.func55, Try.ntmps55
    go_wp2_with (first | (go_at_call 74; refine (lIn_any _ _ _ _).mono ?_; rw [h1]; rintro e w1 ⟨rfl, hG1⟩) | (go_at_call 81; refine (HC.out _ hG1).mono ?_; rintro e w2 ⟨rfl, hG2⟩))
    go_ret
    exact ⟨by rw [HV.out]; rfl, hG1.t hG2⟩
end
end Go.Proofs.Ytcekdljjmfkacaa
