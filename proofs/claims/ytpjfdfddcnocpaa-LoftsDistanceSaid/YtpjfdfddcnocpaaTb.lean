import Derived.Test.YtpjfdfddcnocpaaKd
set_option linter.unusedSimpArgs false
set_option linter.unusedVariables false
namespace Go.Proofs.Ytpjfdfddcnocpaa
open Go.RowKit
attribute [local go_sem] Oper.semAt_some

set_option maxHeartbeats 2000000 in
theorem rRoot_any (n : Int) (w : World) (hn : 0 ≤ n ∧ n ≤ 6400000160000000) :
    Calls Try.prog 98 #[.int .i64 n] w fun e w' => e = .returned (.int .i64 (rt n.toNat)) ∧ G w w' := by
  have hb := rt_le n.toNat 80000000 (by omega) (by omega)
  obtain ⟨hs1, hs2⟩ := rt_spec n.toNat (by omega)
  generalize rt n.toNat = r at *
  have hge : ∀ m : Nat, m ≤ r → (m : Int) * m ≤ n := fun m hm => by
    have h1 : m * m ≤ r * r := Nat.mul_le_mul hm hm
    have h2 : ((m * m : Nat) : Int) = (m : Int) * m := by simp
    omega
  have hgt : ∀ m : Nat, r < m → n < (m : Int) * m := fun m hm => by
    have h1 : (r + 1) * (r + 1) ≤ m * m := Nat.mul_le_mul (by omega) (by omega)
    have h2 : ((m * m : Nat) : Int) = (m : Int) * m := by simp
    omega
  have HGE := Lib.hid hge
  have HGT := Lib.hid hgt
  clear hge hgt hs1 hs2
  go_enter Try.func98, Try.ntmps98
  go_wp2
  go_loopw [3, 4] (fun lo hi wr => ∃ a b : Nat, lo = .int .i64 a ∧ hi = .int .i64 b ∧ a ≤ r ∧ r ≤ b ∧ b ≤ 2147483648 ∧ G w wr) (fun lo hi _ => (intOf hi).toNat - (intOf lo).toNat)
  case atStart => exact ⟨0, 2147483648, rfl, rfl, by omega, by omega, by omega, G.rf _⟩
  case round =>
    obtain ⟨a, b, rfl, rfl, h1, h2, h3, hG⟩ := hrel
    by_cases hlt : a < b
    · obtain ⟨m, hm⟩ : ∃ m : Nat, m = (a + b + 1) / 2 := ⟨_, rfl⟩
      have hq : ((a : Int) + b + 1).tdiv 2 = (m : Int) := by
        rw [hm, Int.tdiv_eq_ediv_of_nonneg (by omega)]
        omega
      have hq2 : ((a : Int) + b + 1) / 2 = (m : Int) := by omega
      have x1 : IntKind.i64.wrap ((a : Int) + b) = (a : Int) + b := IntWalk.i64_in _ (by omega)
      have x2 : IntKind.i64.wrap ((a : Int) + b + 1) = (a : Int) + b + 1 := IntWalk.i64_in _ (by omega)
      have x3 : IntKind.i64.wrap (m : Int) = (m : Int) := IntWalk.i64_in _ (by omega)
      have x5 : IntKind.i64.wrap ((m : Int) - 1) = ((m - 1 : Nat) : Int) := by rw [IntWalk.i64_in _ (by omega)]; omega
      obtain ⟨y1, y2⟩ := mul_bd (A := 2147483648) (B := 2147483648) (a := (m : Int)) (b := (m : Int)) (by omega) (by omega) (by omega) (by omega)
      have x4 : IntKind.i64.wrap ((m : Int) * m) = (m : Int) * m := IntWalk.i64_in _ (by omega)
      have hlt' : (a : Int) < b := by omega
      have hm1 : a < m := by omega
      have hm2 : m ≤ b := by omega
      clear hm hq
      by_cases hc : m ≤ r
      · have t := HGE.out m hc
        clear y1 y2
        go_wp2
        go_roundw
        case rel => exact ⟨m, b, by first | rfl | rw [hq2], rfl, hc, h2, h3, hG⟩
        case measure => simp [intOf]; omega
      · have t := HGT.out m (by omega)
        have t' : ¬ (m : Int) * m ≤ n := by omega
        clear y1 y2 t
        go_wp2
        go_roundw
        case rel => exact ⟨a, m - 1, rfl, by first | rfl | (rw [hq2]; go_num), h1, by omega, by omega, hG⟩
        case measure => simp [intOf]; omega
    · have hlt' : ¬ (a : Int) < b := by omega
      obtain rfl : a = r := by omega
      go_wp2
      go_ret
      exact ⟨rfl, hG⟩

theorem rnd_near (n : Nat) : rnd 1 n = rt n / 2 + (if 2 * (rt n / 2) + 1 ≤ rt n then 1 else 0) := by
  unfold rnd
  rw [if_neg (by decide), if_pos rfl]
  split <;> omega
theorem rnd_up (n : Nat) : rnd 2 n = rt n / 2 + (if 2 * (rt n / 2) + 1 ≤ rt n then 1 else if rt n * rt n < n then 1 else 0) := by
  unfold rnd rtUp
  rw [if_neg (by decide), if_neg (by decide)]
  split <;> split <;> omega
set_option maxHeartbeats 2000000 in
theorem rRounded_any (n rule : Int) (w : World) (hn : 0 ≤ n ∧ n ≤ 6400000160000000) (hr : 0 ≤ rule ∧ rule ≤ 2) :
    Calls Try.prog 69 #[.int .i64 n, .int .i64 rule] w fun e w' => e = .returned (.int .i64 (rnd rule n.toNat)) ∧ G w w' := by
  have hb := rt_le n.toNat 80000000 (by omega) (by omega)
  obtain ⟨hs1, hs2⟩ := rt_spec n.toNat (by omega)
  have hC := rRoot_any n w hn
  have h1 := rnd_near n.toNat
  have h2 := rnd_up n.toNat
  have h0 : rnd 0 n.toNat = rt n.toNat / 2 := rfl
  generalize rt n.toNat = r at *
  obtain ⟨d, hd⟩ : ∃ d : Nat, d = r / 2 := ⟨_, rfl⟩
  have hq : ((r : Int)).tdiv 2 = (d : Int) := by
    rw [hd, Int.tdiv_eq_ediv_of_nonneg (by omega)]
    omega
  rw [← hd] at h0 h1 h2
  have hrd : r = 2 * d ∨ r = 2 * d + 1 := by omega
  have e1 : (2 * (d : Int) + 1) * (2 * (d : Int) + 1) = ((2 * d + 1) * (2 * d + 1) : Nat) := by simp
  have e2 : 4 * (d : Int) * (d : Int) = ((2 * d) * (2 * d) : Nat) := by
    have : (2 * d) * (2 * d) = 4 * d * d := by rw [Nat.mul_assoc, Nat.mul_left_comm d 2 d, ← Nat.mul_assoc, ← Nat.mul_assoc]
    rw [this]; simp
  have b1 : (2 * d + 1) * (2 * d + 1) ≤ 80000001 * 80000001 := Nat.mul_le_mul (by omega) (by omega)
  have b2 : (2 * d) * (2 * d) ≤ 80000001 * 80000001 := Nat.mul_le_mul (by omega) (by omega)
  have m1 : (2 * d + 1) * (2 * d + 1) ≤ n.toNat ↔ 2 * d + 1 ≤ r := by
    constructor
    · intro h
      by_cases hh : 2 * d + 1 ≤ r
      · exact hh
      · have : (r + 1) * (r + 1) ≤ (2 * d + 1) * (2 * d + 1) := Nat.mul_le_mul (by omega) (by omega)
        omega
    · intro h
      have : (2 * d + 1) * (2 * d + 1) ≤ r * r := Nat.mul_le_mul h h
      omega
  have m2 : (2 * d) * (2 * d) < n.toNat ↔ (2 * d + 1 ≤ r ∨ r * r < n.toNat) := by
    rcases hrd with e | e
    · rw [← e]; omega
    · have : (2 * d) * (2 * d) < r * r := Nat.mul_lt_mul_of_lt_of_le (by omega) (by omega) (by omega)
      omega
  have x1 : IntKind.i64.wrap (d : Int) = (d : Int) := IntWalk.i64_in _ (by omega)
  have x2 : IntKind.i64.wrap (2 * (d : Int)) = 2 * (d : Int) := IntWalk.i64_in _ (by omega)
  have x3 : IntKind.i64.wrap (2 * (d : Int) + 1) = 2 * (d : Int) + 1 := IntWalk.i64_in _ (by omega)
  have x4 : IntKind.i64.wrap ((2 * (d : Int) + 1) * (2 * (d : Int) + 1)) = (2 * (d : Int) + 1) * (2 * (d : Int) + 1) := IntWalk.i64_in _ (by omega)
  have x5 : IntKind.i64.wrap (4 * (d : Int)) = 4 * (d : Int) := IntWalk.i64_in _ (by omega)
  have x6 : IntKind.i64.wrap (4 * (d : Int) * d) = 4 * (d : Int) * d := IntWalk.i64_in _ (by omega)
  have x7 : IntKind.i64.wrap ((d : Int) + 1) = ((d + 1 : Nat) : Int) := by rw [IntWalk.i64_in _ (by omega)]; omega
  have hcase : (rule = 0 ∧ Hid (rnd rule n.toNat = d)) ∨ (rule = 1 ∧ (2 * (d : Int) + 1) * (2 * (d : Int) + 1) ≤ n ∧ Hid (rnd rule n.toNat = d + 1)) ∨ (rule = 1 ∧ ¬ (2 * (d : Int) + 1) * (2 * (d : Int) + 1) ≤ n ∧ Hid (rnd rule n.toNat = d)) ∨
      (rule = 2 ∧ 4 * (d : Int) * d < n ∧ Hid (rnd rule n.toNat = d + 1)) ∨ (rule = 2 ∧ ¬ 4 * (d : Int) * d < n ∧ Hid (rnd rule n.toNat = d)) := by
    have : rule = 0 ∨ rule = 1 ∨ rule = 2 := by omega
    unfold Hid
    rcases this with rfl | rfl | rfl
    · exact .inl ⟨rfl, h0⟩
    · refine .inr ?_
      by_cases hh : (2 * d + 1) * (2 * d + 1) ≤ n.toNat
      · exact .inl ⟨rfl, by omega, by rw [h1, if_pos (m1.1 hh)]⟩
      · exact .inr (.inl ⟨rfl, by omega, by rw [h1, if_neg (fun h => hh (m1.2 h))]; rfl⟩)
    · refine .inr (.inr (.inr ?_))
      by_cases hh : (2 * d) * (2 * d) < n.toNat
      · refine .inl ⟨rfl, by omega, ?_⟩
        rw [h2]
        rcases m2.1 hh with h | h
        · rw [if_pos h]
        · split
          · rfl
          · first | rfl | rw [if_pos h]
      · refine .inr ⟨rfl, by omega, ?_⟩
        rw [h2, if_neg (fun h => hh (m2.2 (.inl h))), if_neg (fun h => hh (m2.2 (.inr h)))]
        rfl
  have HC := Lib.hid hC
  clear hC h0 h1 h2 hs1 hs2 hrd e1 e2 b1 b2 m1 m2 hd
  rcases hcase with ⟨rfl, hv⟩ | ⟨rfl, t, hv⟩ | ⟨rfl, t, hv⟩ | ⟨rfl, t, hv⟩ | ⟨rfl, t, hv⟩
  all_goals
    go_enter Try.func69, Try.ntmps69
    go_wp2_with (go_at_call 98; refine HC.out.mono ?_; rintro e w' ⟨rfl, hG⟩)
    go_ret
    exact ⟨by rw [hv.out]; rfl, hG⟩
end Go.Proofs.Ytpjfdfddcnocpaa
