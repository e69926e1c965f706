import Derived.Test.YtpjfdfddcnocpaaTd
set_option linter.unusedSimpArgs false
set_option linter.unusedVariables false
namespace Go.Proofs.Ytpjfdfddcnocpaa
open Go.RowKit
attribute [local go_sem] Oper.semAt_some

set_option maxHeartbeats 2000000 in
theorem sameInts_eq (a b : Option Addr) (l : List Int) (c d : Nat) (w : World) (ha : IntsAt w a l) (hb : IntsAt w b l) (hl : l.length ≤ 1000000) :
    Calls Try.prog 41 #[.slice a l.length c, .slice b l.length d] w fun e w' => e = .returned (.bool true) ∧ G w w' := by
  go_enter Try.func41, Try.ntmps41
  go_wp2
  go_loopw [5] (fun i wr => ∃ k : Nat, k ≤ l.length ∧ i = .int .i64 k ∧ G w wr) (fun i _ => l.length - (intOf i).toNat)
  case atStart => exact ⟨0, Nat.zero_le _, rfl, G.rf _⟩
  case round =>
    obtain ⟨k, hk, rfl, hG⟩ := hrel
    by_cases hlt : k < l.length
    · have hki : (k : Int) < l.length := by omega
      rcases ha with rfl | ⟨g1, o1, rfl, h1, hc1⟩
      · simp at hlt
      rcases hb with h | ⟨g2, o2, rfl, h2, hc2⟩
      · rw [h] at hlt; simp at hlt
      have c1 := hc1 k hlt
      have c2 := hc2 k hlt
      generalize l.getD k 0 = x at *
      replace c1 := GW.cell (((bcellB hG).1 g1 _ h1).trans c1) (Nat.lt_of_lt_of_le h1 hG.size)
      replace c2 := GW.cell (((bcellB hG).1 g2 _ h2).trans c2) (Nat.lt_of_lt_of_le h2 hG.size)
      clear hc1 hc2
      go_wp2
      refine wp_region_quiet_G (by kernel_rfl) (by kernel_rfl) ?_
      repeat (quiet_step (fail))
      refine wpQuiet_nil ?_
      intro _ hw'
      obtain ⟨y, rfl⟩ := hw'
      clear c1 c2
      go_wp2
      go_roundw
      case rel => exact ⟨k + 1, by omega, by go_num, hG.t y.g⟩
      case measure => simp [intOf]; omega
    · have hki : ¬ (k : Int) < l.length := by omega
      go_wp2
      go_ret
      exact ⟨rfl, hG⟩
set_option maxHeartbeats 2000000 in
theorem samePoints_eq (a b : Option Addr) (l : List (Int × Int)) (c d : Nat) (w : World) (ha : ZAt w a l) (hb : ZAt w b l) (hl : l.length ≤ 1000000) :
    Calls Try.prog 42 #[.slice a l.length c, .slice b l.length d] w fun e w' => e = .returned (.bool true) ∧ G w w' := by
  go_enter Try.func42, Try.ntmps42
  go_wp2
  go_loopw [5] (fun i wr => ∃ k : Nat, k ≤ l.length ∧ i = .int .i64 k ∧ G w wr) (fun i _ => l.length - (intOf i).toNat)
  case atStart => exact ⟨0, Nat.zero_le _, rfl, G.rf _⟩
  case round =>
    obtain ⟨k, hk, rfl, hG⟩ := hrel
    by_cases hlt : k < l.length
    · have hki : (k : Int) < l.length := by omega
      rcases ha with rfl | ⟨g1, o1, rfl, h1, hc1⟩
      · simp at hlt
      rcases hb with h | ⟨g2, o2, rfl, h2, hc2⟩
      · rw [h] at hlt; simp at hlt
      obtain ⟨c1, d1⟩ := hc1 k hlt
      obtain ⟨c2, d2⟩ := hc2 k hlt
      generalize l.getD k (0, 0) = p at *
      obtain ⟨x, y⟩ := p
      simp only at c1 c2 d1 d2
      have q := eq27 x y x y
      have qx : ((x == x) && (y == y)) = true := by simp
      rw [qx] at q
      clear qx
      replace c1 := GW.cell (((bcellB hG).1 g1 _ h1).trans c1) (Nat.lt_of_lt_of_le h1 hG.size)
      replace c2 := GW.cell (((bcellB hG).1 g2 _ h2).trans c2) (Nat.lt_of_lt_of_le h2 hG.size)
      replace d1 := GW.cell (((bcellB hG).1 g1 _ h1).trans d1) (Nat.lt_of_lt_of_le h1 hG.size)
      replace d2 := GW.cell (((bcellB hG).1 g2 _ h2).trans d2) (Nat.lt_of_lt_of_le h2 hG.size)
      clear hc1 hc2
      go_wp2
      refine wp_region_quiet_G (by kernel_rfl) (by kernel_rfl) ?_
      repeat (quiet_step (fail))
      refine wpQuiet_nil ?_
      intro _ hw'
      obtain ⟨z, rfl⟩ := hw'
      clear c1 c2 d1 d2
      go_wp2
      go_roundw
      case rel => exact ⟨k + 1, by omega, by go_num, hG.t z.g⟩
      case measure => simp [intOf]; omega
    · have hki : ¬ (k : Int) < l.length := by omega
      go_wp2
      go_ret
      exact ⟨rfl, hG⟩
end Go.Proofs.Ytpjfdfddcnocpaa
