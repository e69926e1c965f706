import Derived.Test.YtcekdljjmfkacaaLc
set_option linter.unusedSimpArgs false
set_option linter.unusedVariables false
namespace Go.Proofs.Ytcekdljjmfkacaa
open Go.RowKit
attribute [local go_sem] Oper.semAt_some

theorem lWx_any (a b : Int) (w : World) : Calls Try.prog 112 #[.agg #[.int .i64 a, .int .i64 b]] w fun e w' => e = .returned (.bool (!spanB a b 0 999)) ∧ G w w' := by
  have g0 : G w (w.alloc (.cells #[.int .i64 a, .int .i64 b] 30)) := (G.rf _).a _
  go_enter Try.func112, Try.ntmps112
  go_wp2_with (go_at_call 83; refine (lSpan_any _ _ _ _ _).mono ?_; rintro e w' ⟨rfl, hG⟩)
  go_ret
  exact ⟨rfl, g0.t hG⟩
set_option maxHeartbeats 2000000 in
theorem IdxSpan_none (C : FuncId) (eg : ∀ args w, (callFunc C args).run Try.prog w = .ok (.enter C args) w) (lb : Array Value) (W : World) (a : Option Addr) (cap n : Nat) (c : Nat → Nat → Int) (hn : n ≤ 1000)
    (ha : n = 0 ∨ ∃ g off, a = some ⟨g, off, none⟩ ∧ g < W.heap.size ∧ ∀ i, i < n → ∀ r, r < 2 → W.cell? ⟨g, off + i * 2 + r, none⟩ = some (.int .i64 (c i r)))
    (hc : ∀ W', G W W' → ∀ i, i < n → Calls Try.prog C (#[.agg #[.int .i64 (c i 0), .int .i64 (c i 1)]] ++ lb) W' fun e w' => e = .returned (.bool false) ∧ G W' w') :
    Calls Try.prog 103 #[.slice a n cap, .func (.func C) #[] lb] W fun e w' => e = .returned (.int .i64 (-1)) ∧ G W w' := by
  have HC := Lib.hid hc
  clear hc
  go_enter Try.func103, Try.ntmps103
  go_wp2
  go_loopw [8] (fun i wr => ∃ k : Nat, k ≤ n ∧ i = .int .i64 k ∧ G W wr) (fun i _ => n - (intOf i).toNat)
  case atStart => exact ⟨0, Nat.zero_le _, rfl, G.rf _⟩
  case round =>
    obtain ⟨k, hk, rfl, hG⟩ := hrel
    by_cases hlt : k < n
    · have hki : (k : Int) < n := by omega
      rcases ha with h | ⟨g, off, rfl, hg, hcell⟩
      · omega
      have lg := Nat.lt_of_lt_of_le hg hG.size
      have hcl := fun r hr => ((bcellB hG).1 g _ hg).trans (hcell k hlt r hr)
      have q0 := hcl 0 (by omega)
      rw [Nat.add_zero] at q0
      have q1 := hcl 1 (by omega)
      have HC2 := Lib.hid (HC.out wr hG k hlt)
      clear hcl hcell HC
      go_wp2_with (go_at_fn C; refine (HC2.out).mono ?_; rintro e w1 ⟨rfl, hG1⟩)
      go_roundw
      case rel => exact ⟨k + 1, by omega, by go_num, hG.t hG1⟩
      case measure => simp [intOf]; omega
    · have hki : ¬ (k : Int) < n := by omega
      go_wp2
      go_ret
      exact ⟨rfl, hG⟩
theorem CtSpan_none (C : FuncId) (eg : ∀ args w, (callFunc C args).run Try.prog w = .ok (.enter C args) w) (lb : Array Value) (W : World) (a : Option Addr) (cap n : Nat) (c : Nat → Nat → Int) (hn : n ≤ 1000)
    (ha : n = 0 ∨ ∃ g off, a = some ⟨g, off, none⟩ ∧ g < W.heap.size ∧ ∀ i, i < n → ∀ r, r < 2 → W.cell? ⟨g, off + i * 2 + r, none⟩ = some (.int .i64 (c i r)))
    (hc : ∀ W', G W W' → ∀ i, i < n → Calls Try.prog C (#[.agg #[.int .i64 (c i 0), .int .i64 (c i 1)]] ++ lb) W' fun e w' => e = .returned (.bool false) ∧ G W' w') :
    Calls Try.prog 81 #[.slice a n cap, .func (.func C) #[] lb] W fun e w' => e = .returned (.bool false) ∧ G W w' := by
  have HI := Lib.hid (IdxSpan_none C eg lb W a cap n c hn ha hc)
  clear ha hc
  go_enter Try.func81, Try.ntmps81
  go_wp2_with (go_at_call 103; refine (HI.out).mono ?_; rintro e w1 ⟨rfl, hG1⟩)
  go_ret
  exact ⟨rfl, hG1⟩
set_option maxHeartbeats 2000000 in
theorem IdxPoint_none (C : FuncId) (eg : ∀ args w, (callFunc C args).run Try.prog w = .ok (.enter C args) w) (lb : Array Value) (W : World) (a : Option Addr) (cap n : Nat) (c : Nat → Nat → Int) (hn : n ≤ 1000)
    (ha : n = 0 ∨ ∃ g off, a = some ⟨g, off, none⟩ ∧ g < W.heap.size ∧ ∀ i, i < n → ∀ r, r < 2 → W.cell? ⟨g, off + i * 2 + r, none⟩ = some (.int .i64 (c i r)))
    (hc : ∀ W', G W W' → ∀ i, i < n → Calls Try.prog C (#[.agg #[.int .i64 (c i 0), .int .i64 (c i 1)]] ++ lb) W' fun e w' => e = .returned (.bool false) ∧ G W' w') :
    Calls Try.prog 118 #[.slice a n cap, .func (.func C) #[] lb] W fun e w' => e = .returned (.int .i64 (-1)) ∧ G W w' := by
  have HC := Lib.hid hc
  clear hc
  go_enter Try.func118, Try.ntmps118
  go_wp2
  go_loopw [8] (fun i wr => ∃ k : Nat, k ≤ n ∧ i = .int .i64 k ∧ G W wr) (fun i _ => n - (intOf i).toNat)
  case atStart => exact ⟨0, Nat.zero_le _, rfl, G.rf _⟩
  case round =>
    obtain ⟨k, hk, rfl, hG⟩ := hrel
    by_cases hlt : k < n
    · have hki : (k : Int) < n := by omega
      rcases ha with h | ⟨g, off, rfl, hg, hcell⟩
      · omega
      have lg := Nat.lt_of_lt_of_le hg hG.size
      have hcl := fun r hr => ((bcellB hG).1 g _ hg).trans (hcell k hlt r hr)
      have q0 := hcl 0 (by omega)
      rw [Nat.add_zero] at q0
      have q1 := hcl 1 (by omega)
      have HC2 := Lib.hid (HC.out wr hG k hlt)
      clear hcl hcell HC
      go_wp2_with (go_at_fn C; refine (HC2.out).mono ?_; rintro e w1 ⟨rfl, hG1⟩)
      go_roundw
      case rel => exact ⟨k + 1, by omega, by go_num, hG.t hG1⟩
      case measure => simp [intOf]; omega
    · have hki : ¬ (k : Int) < n := by omega
      go_wp2
      go_ret
      exact ⟨rfl, hG⟩
theorem CtPoint_none (C : FuncId) (eg : ∀ args w, (callFunc C args).run Try.prog w = .ok (.enter C args) w) (lb : Array Value) (W : World) (a : Option Addr) (cap n : Nat) (c : Nat → Nat → Int) (hn : n ≤ 1000)
    (ha : n = 0 ∨ ∃ g off, a = some ⟨g, off, none⟩ ∧ g < W.heap.size ∧ ∀ i, i < n → ∀ r, r < 2 → W.cell? ⟨g, off + i * 2 + r, none⟩ = some (.int .i64 (c i r)))
    (hc : ∀ W', G W W' → ∀ i, i < n → Calls Try.prog C (#[.agg #[.int .i64 (c i 0), .int .i64 (c i 1)]] ++ lb) W' fun e w' => e = .returned (.bool false) ∧ G W' w') :
    Calls Try.prog 109 #[.slice a n cap, .func (.func C) #[] lb] W fun e w' => e = .returned (.bool false) ∧ G W w' := by
  have HI := Lib.hid (IdxPoint_none C eg lb W a cap n c hn ha hc)
  clear ha hc
  go_enter Try.func109, Try.ntmps109
  go_wp2_with (go_at_call 118; refine (HI.out).mono ?_; rintro e w1 ⟨rfl, hG1⟩)
  go_ret
  exact ⟨rfl, hG1⟩
set_option maxHeartbeats 2000000 in
theorem IdxFront_none (C : FuncId) (eg : ∀ args w, (callFunc C args).run Try.prog w = .ok (.enter C args) w) (lb : Array Value) (W : World) (a : Option Addr) (cap n : Nat) (c : Nat → Nat → Int) (hn : n ≤ 1000)
    (ha : n = 0 ∨ ∃ g off, a = some ⟨g, off, none⟩ ∧ g < W.heap.size ∧ ∀ i, i < n → ∀ r, r < 12 → W.cell? ⟨g, off + i * 12 + r, none⟩ = some (.int .i64 (c i r)))
    (hc : ∀ W', G W W' → ∀ i, i < n → Calls Try.prog C (#[.agg #[.int .i64 (c i 0), .int .i64 (c i 1), .int .i64 (c i 2), .int .i64 (c i 3), .int .i64 (c i 4), .int .i64 (c i 5), .int .i64 (c i 6), .int .i64 (c i 7), .int .i64 (c i 8), .int .i64 (c i 9), .int .i64 (c i 10), .int .i64 (c i 11)]] ++ lb) W' fun e w' => e = .returned (.bool false) ∧ G W' w') :
    Calls Try.prog 111 #[.slice a n cap, .func (.func C) #[] lb] W fun e w' => e = .returned (.int .i64 (-1)) ∧ G W w' := by
  have HC := Lib.hid hc
  clear hc
  go_enter Try.func111, Try.ntmps111
  go_wp2
  go_loopw [8] (fun i wr => ∃ k : Nat, k ≤ n ∧ i = .int .i64 k ∧ G W wr) (fun i _ => n - (intOf i).toNat)
  case atStart => exact ⟨0, Nat.zero_le _, rfl, G.rf _⟩
  case round =>
    obtain ⟨k, hk, rfl, hG⟩ := hrel
    by_cases hlt : k < n
    · have hki : (k : Int) < n := by omega
      rcases ha with h | ⟨g, off, rfl, hg, hcell⟩
      · omega
      have lg := Nat.lt_of_lt_of_le hg hG.size
      have hcl := fun r hr => ((bcellB hG).1 g _ hg).trans (hcell k hlt r hr)
      have q0 := hcl 0 (by omega)
      rw [Nat.add_zero] at q0
      have q1 := hcl 1 (by omega)
      have q2 := hcl 2 (by omega)
      have q3 := hcl 3 (by omega)
      have q4 := hcl 4 (by omega)
      have q5 := hcl 5 (by omega)
      have q6 := hcl 6 (by omega)
      have q7 := hcl 7 (by omega)
      have q8 := hcl 8 (by omega)
      have q9 := hcl 9 (by omega)
      have q10 := hcl 10 (by omega)
      have q11 := hcl 11 (by omega)
      have HC2 := Lib.hid (HC.out wr hG k hlt)
      clear hcl hcell HC
      go_wp2_with (go_at_fn C; refine (HC2.out).mono ?_; rintro e w1 ⟨rfl, hG1⟩)
      go_roundw
      case rel => exact ⟨k + 1, by omega, by go_num, hG.t hG1⟩
      case measure => simp [intOf]; omega
    · have hki : ¬ (k : Int) < n := by omega
      go_wp2
      go_ret
      exact ⟨rfl, hG⟩
theorem CtFront_none (C : FuncId) (eg : ∀ args w, (callFunc C args).run Try.prog w = .ok (.enter C args) w) (lb : Array Value) (W : World) (a : Option Addr) (cap n : Nat) (c : Nat → Nat → Int) (hn : n ≤ 1000)
    (ha : n = 0 ∨ ∃ g off, a = some ⟨g, off, none⟩ ∧ g < W.heap.size ∧ ∀ i, i < n → ∀ r, r < 12 → W.cell? ⟨g, off + i * 12 + r, none⟩ = some (.int .i64 (c i r)))
    (hc : ∀ W', G W W' → ∀ i, i < n → Calls Try.prog C (#[.agg #[.int .i64 (c i 0), .int .i64 (c i 1), .int .i64 (c i 2), .int .i64 (c i 3), .int .i64 (c i 4), .int .i64 (c i 5), .int .i64 (c i 6), .int .i64 (c i 7), .int .i64 (c i 8), .int .i64 (c i 9), .int .i64 (c i 10), .int .i64 (c i 11)]] ++ lb) W' fun e w' => e = .returned (.bool false) ∧ G W' w') :
    Calls Try.prog 87 #[.slice a n cap, .func (.func C) #[] lb] W fun e w' => e = .returned (.bool false) ∧ G W w' := by
  have HI := Lib.hid (IdxFront_none C eg lb W a cap n c hn ha hc)
  clear ha hc
  go_enter Try.func87, Try.ntmps87
  go_wp2_with (go_at_call 111; refine (HI.out).mono ?_; rintro e w1 ⟨rfl, hG1⟩)
  go_ret
  exact ⟨rfl, hG1⟩
end Go.Proofs.Ytcekdljjmfkacaa
