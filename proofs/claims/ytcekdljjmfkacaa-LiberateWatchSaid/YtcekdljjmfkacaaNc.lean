import Derived.Test.YtcekdljjmfkacaaNb
import Derived.Test.YtcekdljjmfkacaaLf
import Derived.Laws.StructEq
set_option linter.unusedSimpArgs false
set_option linter.unusedVariables false
namespace Go.Proofs.Ytcekdljjmfkacaa
open Go.RowKit
attribute [local go_sem] Oper.semAt_some
theorem eqSp (d : Nat) (a b c e : Int) (w : World) : (Op.equalIn (d + 1 + 1) 30 (.agg #[.int .i64 a, .int .i64 b]) (.agg #[.int .i64 c, .int .i64 e])).run Try.prog w = .ok (a == c && b == e) w := by
  have u3 := Try.underlying3
  have hS : Try.prog.underlying 30 = some (.struct (Try.prog.fieldsOf 30)) := by kernel_rfl
  have hp : Try.prog.stoodInHeld 30 = false := by kernel_rfl
  rw [run_equalIn_agg w (d + 1) 30 _ _ hS hp]
  simp only [Program.fieldsOf, Try.underlying30]
  go_simp
  by_cases h1 : a = c <;> by_cases h2 : b = e <;> simp [h1, h2]
theorem eqSky (a b : Sk) (w : World) : (binOp .eql 102 (.agg a.v) (.agg b.v)).run Try.prog w = .ok (.bool (skEq a b)) w := by
  have key : ∀ d, (Op.equalIn (d + 1 + 1 + 1) 102 (.agg a.v) (.agg b.v)).run Try.prog w = .ok (skEq a b) w := by
    intro d
    have h30 := fun x y z u => eqSp d x y z u w
    generalize d + 1 + 1 = d2 at h30 ⊢
    simp only [Op.equalIn, Sem.run_bind, run_underlying Try.underlying102, Result.andThen_ok]
    have e3 : List.range' 0 3 = [0, 1, 2] := rfl
    simp only [Std.Legacy.Range.forIn_eq_forIn_range', Std.Legacy.Range.size, Nat.sub_zero, Nat.add_one_sub_one, Nat.div_one, Sk.v, List.forIn_cons, List.forIn_nil, show (3 + 1 - 1 : Nat) = 3 from rfl, e3]
    go_simp
    unfold skEq
    cases h1 : (a.wl == b.wl && a.wh == b.wh) <;> cases h2 : (a.sl == b.sl && a.sh == b.sh) <;> cases h3 : (a.hl == b.hl && a.hh == b.hh) <;> simp [h30, h1, h2, h3] <;> (simp at h1 h2 h3; first | omega | simp [h1, h2, h3])
  rw [run_eql_struct, key 9997]
  rfl

/-- a number of the first n for which p says yes -/
def anyU (p : Nat → Bool) (n : Nat) : Bool := (List.range n).any p
theorem anyU_no {p : Nat → Bool} {n : Nat} (h : ∀ i, i < n → p i = false) : anyU p n = false := by
  unfold anyU
  rw [List.any_eq_false]
  intro x hx
  simp [h x (List.mem_range.1 hx)]
theorem anyU_yes {p : Nat → Bool} {n i : Nat} (hi : i < n) (h : p i = true) : anyU p n = true := by
  unfold anyU
  rw [List.any_eq_true]
  exact ⟨i, List.mem_range.2 hi, h⟩
set_option maxHeartbeats 2000000 in
theorem IdxSpan_any (C : FuncId) (eg : ∀ args w, (callFunc C args).run Try.prog w = .ok (.enter C args) w) (lb : Array Value) (W : World) (a : Option Addr) (cap n : Nat) (c : Nat → Nat → Int) (p : Nat → Bool) (hn : n ≤ 1000)
    (ha : n = 0 ∨ ∃ g off, a = some ⟨g, off, none⟩ ∧ g < W.heap.size ∧ ∀ i, i < n → ∀ r, r < 2 → W.cell? ⟨g, off + i * 2 + r, none⟩ = some (.int .i64 (c i r)))
    (hc : ∀ W', G W W' → ∀ i, i < n → Calls Try.prog C (#[.agg #[.int .i64 (c i 0), .int .i64 (c i 1)]] ++ lb) W' fun e w' => e = .returned (.bool (p i)) ∧ G W' w') :
    Calls Try.prog 103 #[.slice a n cap, .func (.func C) #[] lb] W fun e w' => ∃ r : Int, e = .returned (.int .i64 r) ∧ decide (0 ≤ r) = anyU p n ∧ G W w' := by
  have HC := Lib.hid hc
  clear hc
  go_enter Try.func103, Try.ntmps103
  go_wp2
  go_loopw [8] (fun i wr => ∃ k : Nat, k ≤ n ∧ i = .int .i64 k ∧ Hid (∀ j, j < k → p j = false) ∧ G W wr) (fun i _ => n - (intOf i).toNat)
  case atStart => exact ⟨0, Nat.zero_le _, rfl, fun j hj => by omega, G.rf _⟩
  case round =>
    obtain ⟨k, hk, rfl, hno, hG⟩ := hrel
    by_cases hlt : k < n
    · have hki : (k : Int) < n := by omega
      rcases ha with h | ⟨g, off, rfl, hg, hcell⟩
      · omega
      have lg := Nat.lt_of_lt_of_le hg hG.size
      have hcl := fun r hr => ((bcellB hG).1 g _ hg).trans (hcell k hlt r hr)
      have q0 := hcl 0 (by omega)
      rw [Nat.add_zero] at q0
      have q1 := hcl 1 (by omega)
      have HC2 := Lib.hid (HC.out wr hG k hlt)
      clear hcl hcell HC
      cases hp : p k
      · rw [hp] at HC2
        have HP := Lib.hid hp
        clear hp
        go_wp2_with (go_at_fn C; refine (HC2.out).mono ?_; rintro e w1 ⟨rfl, hG1⟩)
        go_roundw
        case rel => exact ⟨k + 1, by omega, by go_num, fun j hj => by
          rcases Nat.lt_or_ge j k with h | h
          · exact hno.out j h
          · obtain rfl : j = k := by omega
            exact HP.out, hG.t hG1⟩
        case measure => simp [intOf]; omega
      · rw [hp] at HC2
        have HP := Lib.hid (anyU_yes hlt hp)
        clear hp
        go_wp2_with (go_at_fn C; refine (HC2.out).mono ?_; rintro e w1 ⟨rfl, hG1⟩)
        go_ret
        exact ⟨k, rfl, by rw [HP.out]; simp, hG.t hG1⟩
    · have hki : ¬ (k : Int) < n := by omega
      obtain rfl : k = n := by omega
      have HP := Lib.hid (anyU_no hno.out)
      go_wp2
      go_ret
      exact ⟨-1, rfl, by rw [HP.out]; rfl, hG⟩
theorem CtSpan_any (C : FuncId) (eg : ∀ args w, (callFunc C args).run Try.prog w = .ok (.enter C args) w) (lb : Array Value) (W : World) (a : Option Addr) (cap n : Nat) (c : Nat → Nat → Int) (p : Nat → Bool) (hn : n ≤ 1000)
    (ha : n = 0 ∨ ∃ g off, a = some ⟨g, off, none⟩ ∧ g < W.heap.size ∧ ∀ i, i < n → ∀ r, r < 2 → W.cell? ⟨g, off + i * 2 + r, none⟩ = some (.int .i64 (c i r)))
    (hc : ∀ W', G W W' → ∀ i, i < n → Calls Try.prog C (#[.agg #[.int .i64 (c i 0), .int .i64 (c i 1)]] ++ lb) W' fun e w' => e = .returned (.bool (p i)) ∧ G W' w') :
    Calls Try.prog 81 #[.slice a n cap, .func (.func C) #[] lb] W fun e w' => e = .returned (.bool (anyU p n)) ∧ G W w' := by
  have HI := Lib.hid (IdxSpan_any C eg lb W a cap n c p hn ha hc)
  clear ha hc
  go_enter Try.func81, Try.ntmps81
  go_wp2_with (go_at_call 103; refine (HI.out).mono ?_; rintro e w1 ⟨r, rfl, hr, hG1⟩; have HR := Lib.hid hr; clear hr)
  go_ret
  exact ⟨by rw [← HR.out]; first | rfl | simp, hG1⟩
def skC (s : Sk) (j : Nat) : Int := [s.wl, s.wh, s.sl, s.sh, s.hl, s.hh].getD j 0
theorem isEmpty_any (s : Sk) (w : World) : Calls Try.prog 96 #[.agg s.v] w fun e w' => e = .returned (.bool (skNone s)) ∧ G w w' := by
  have b0 := Blk.new w 102 s.v
  have g0 : G w (w.alloc (.cells s.v 102)) := (G.rf _).a _
  have HC := Lib.hid (CtSpan_any 114 (enters_of Try.func114 (by kernel_rfl) rfl) #[] (w.alloc (.cells s.v 102)) (some ⟨w.heap.size, 0, none⟩) 3 3 (fun i r => skC s (i * 2 + r)) (fun i => decide (skC s (i * 2 + 1) < skC s (i * 2))) (by omega)
    (.inr ⟨_, _, rfl, b0.lt, fun i hi r hr => by
      rw [Nat.zero_add, b0.cell]
      have : i * 2 + r < 6 := by omega
      generalize i * 2 + r = q at *
      match q, this with
      | 0, _ => rfl
      | 1, _ => rfl
      | 2, _ => rfl
      | 3, _ => rfl
      | 4, _ => rfl
      | 5, _ => rfl⟩)
    (fun W' hW i hi => isNone_any _ _ W'))
  have e : anyU (fun i => decide (skC s (i * 2 + 1) < skC s (i * 2))) 3 = skNone s := by
    unfold anyU skNone
    simp [List.range_succ, skC]
  rw [e] at HC
  have l0 := b0.lt
  clear e b0
  go_enter Try.func96, Try.ntmps96
  go_wp2_with (go_at_call 81; refine (HC.out).mono ?_; rintro e w1 ⟨rfl, hG1⟩)
  go_ret
  exact ⟨rfl, g0.t hG1⟩
end Go.Proofs.Ytcekdljjmfkacaa
