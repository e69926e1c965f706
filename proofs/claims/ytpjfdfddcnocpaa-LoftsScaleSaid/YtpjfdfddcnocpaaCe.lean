import Derived.Test.YtpjfdfddcnocpaaCd
import Derived.Test.YtpjfdfddcnocpaaMa
import Derived.Test.YtpjfdfddcnocpaaShelf
set_option linter.unusedSimpArgs false
set_option linter.unusedVariables false
namespace Go.Proofs.Ytpjfdfddcnocpaa
open Go.RowKit Go.Lib Go.Sort Go.Shelf

theorem grow_G (w : World) (q : Nat) (os : Array Obj) : G w (grow (w.drewN q) os) := below_grown_sl _ w q os (Nat.le_refl _)

set_option maxHeartbeats 1000000 in
theorem rootFn_any (n : Int) (i B : Nat) (W : World) (hn : 0 ≤ n ∧ n ≤ 6400000160000000) (hi : i < 80000000) (hB : Blk W B 3 #[.int .i64 n]) :
    Calls Try.prog 102 (#[.int .i64 i] ++ #[.pointer (some ⟨B, 0, none⟩)]) W fun e w' => e = .returned (.bool (decide (n.toNat < (i + 1) * (i + 1)))) ∧ ∃ q os, w' = grow (W.drewN q) os := by
  have c0 : W.cell? ⟨B, 0, none⟩ = some (.int .i64 n) := hB.cell 0
  obtain ⟨m1, m2⟩ := mul_bd (A := 80000000) (B := 80000000) (a := (i : Int) + 1) (b := (i : Int) + 1) (by omega) (by omega) (by omega) (by omega)
  have e : (decide (n.toNat < (i + 1) * (i + 1))) = decide (n < ((i : Int) + 1) * ((i : Int) + 1)) := by
    have h1 : (((i + 1) * (i + 1) : Nat) : Int) = ((i : Int) + 1) * ((i : Int) + 1) := by simp
    rw [decide_eq_decide]
    omega
  have HE := Lib.hid e
  clear e
  go_enter Try.func102, Try.ntmps102
  go_wp2
  go_ret
  exact ⟨by rw [HE.out]; rfl, 0, #[], by rw [grow_empty]; rfl⟩

set_option maxHeartbeats 1000000 in
theorem root_any (n : Int) (w : World) (hn : 0 ≤ n ∧ n ≤ 6400000160000000) :
    Calls Try.prog 82 #[.int .i64 n] w fun e w' => e = .returned (.int .i64 (rt n.toNat)) ∧ G w w' := by
  have hC := fun (W : World) (hB : Blk W w.heap.size 3 #[.int .i64 n]) =>
    Any.sort_Search Try.searchL 102 #[.pointer (some ⟨w.heap.size, 0, none⟩)] 80000000 (fun i => decide (n.toNat < (i + 1) * (i + 1))) W (enters_of Try.func102 (by kernel_rfl) rfl) (by decide)
      (fun m os i hi => rootFn_any n i w.heap.size _ hn hi (hB.keep (grow_G W m os)))
      (fun a b hab hb h => by
        have := Nat.mul_le_mul (show a + 1 ≤ b + 1 by omega) (show a + 1 ≤ b + 1 by omega)
        exact decide_eq_true (Nat.lt_of_lt_of_le (of_decide_eq_true h) this))
  rw [rt_count n.toNat 80000000 (by omega) (by omega)] at hC
  change ∀ W _, Calls Try.prog 101 _ _ _ at hC
  go_enter Try.func82, Try.ntmps82
  go_wp2_with (go_at_call 101; refine (hC _ (Blk.new _ _ _)).mono ?_; rintro e w' ⟨rfl, q, os, rfl⟩)
  go_ret
  exact ⟨rfl, ((G.rf _).a _).t (grow_G _ _ _)⟩

set_option maxHeartbeats 1000000 in
theorem down_any (n : Int) (w : World) (hn : 0 ≤ n ∧ n ≤ 6400000160000000) :
    Calls Try.prog 63 #[.int .i64 n] w fun e w' => e = .returned (.int .i64 ((rt n.toNat / 2 : Nat))) ∧ G w w' := by
  have hb := rt_le n.toNat 80000000 (by omega) (by omega)
  have hC := root_any n w hn
  generalize rt n.toNat = r at hC hb ⊢
  go_enter Try.func63, Try.ntmps63
  go_wp2_with (go_at_call 82; refine hC.mono ?_; rintro e w' ⟨rfl, hG⟩)
  go_ret
  exact ⟨by simp, hG⟩

def rtUp (n : Nat) : Nat := if rt n * rt n < n then rt n + 1 else rt n
set_option maxHeartbeats 1000000 in
theorem rootAbove_any (n : Int) (w : World) (hn : 0 ≤ n ∧ n ≤ 6400000160000000) :
    Calls Try.prog 84 #[.int .i64 n] w fun e w' => e = .returned (.int .i64 (rtUp n.toNat)) ∧ G w w' := by
  have hb := rt_le n.toNat 80000000 (by omega) (by omega)
  have hC := root_any n w hn
  have HU : Hid (rtUp n.toNat = if rt n.toNat * rt n.toNat < n.toNat then rt n.toNat + 1 else rt n.toNat) := rfl
  generalize rt n.toNat = r at hC hb HU
  obtain ⟨m1, m2⟩ := mul_bd (A := 80000000) (B := 80000000) (a := (r : Int)) (b := (r : Int)) (by omega) (by omega) (by omega) (by omega)
  by_cases hlt : (r : Int) * r < n
  · have e : rtUp n.toNat = r + 1 := by
      rw [HU.out, if_pos]
      have h1 : ((r * r : Nat) : Int) = (r : Int) * r := by simp
      omega
    have HE := Lib.hid e
    clear e
    go_enter Try.func84, Try.ntmps84
    go_wp2_with (go_at_call 82; refine hC.mono ?_; rintro e w' ⟨rfl, hG⟩)
    go_ret
    exact ⟨by rw [HE.out]; simp, hG⟩
  · have e : rtUp n.toNat = r := by
      rw [HU.out, if_neg]
      have h1 : ((r * r : Nat) : Int) = (r : Int) * r := by simp
      omega
    have HE := Lib.hid e
    clear e
    go_enter Try.func84, Try.ntmps84
    go_wp2_with (go_at_call 82; refine hC.mono ?_; rintro e w' ⟨rfl, hG⟩)
    go_ret
    exact ⟨by rw [HE.out]; rfl, hG⟩

set_option maxHeartbeats 1000000 in
theorem near2_any (n : Int) (w : World) (hn : 0 ≤ n ∧ n ≤ 6400000160000000) :
    Calls Try.prog 81 #[.int .i64 n] w fun e w' => e = .returned (.int .i64 ((rt n.toNat + 1 : Nat))) ∧ G w w' := by
  have hb := rt_le n.toNat 80000000 (by omega) (by omega)
  have hC := root_any n w hn
  generalize rt n.toNat = r at hC hb ⊢
  go_enter Try.func81, Try.ntmps81
  go_wp2_with (go_at_call 82; refine hC.mono ?_; rintro e w' ⟨rfl, hG⟩)
  go_ret
  exact ⟨by simp, hG⟩

theorem rtUp_le (n : Nat) (h : n ≤ 6400000160000000) : rtUp n ≤ 80000001 := by
  have := rt_le n 80000000 (by omega) (by omega)
  unfold rtUp; split <;> omega

set_option maxHeartbeats 1000000 in
theorem up2_any (n : Int) (w : World) (hn : 0 ≤ n ∧ n ≤ 6400000160000000) :
    Calls Try.prog 83 #[.int .i64 n] w fun e w' => e = .returned (.int .i64 ((rtUp n.toNat + 1 : Nat))) ∧ G w w' := by
  have hb := rtUp_le n.toNat (by omega)
  have hC := rootAbove_any n w hn
  generalize rtUp n.toNat = r at hC hb ⊢
  go_enter Try.func83, Try.ntmps83
  go_wp2_with (go_at_call 84; refine hC.mono ?_; rintro e w' ⟨rfl, hG⟩)
  go_ret
  exact ⟨by simp, hG⟩

set_option maxHeartbeats 1000000 in
/-- the closure 'halved(twice)': its box holds the function value 'twice' -/
theorem halved_any (n : Int) (B g : Nat) (r : Nat) (w : World) (hB : Blk w B 71 #[.func (.func g) #[] #[]]) (eg : ∀ args w, (callFunc g args).run Try.prog w = .ok (.enter g args) w)
    (hr : r ≤ 80000002) (hC : Calls Try.prog g #[.int .i64 n] w fun e w' => e = .returned (.int .i64 r) ∧ G w w') :
    Calls Try.prog 80 #[.int .i64 n, .pointer (some ⟨B, 0, none⟩)] w fun e w' => e = .returned (.int .i64 ((r / 2 : Nat))) ∧ G w w' := by
  have c0 : w.cell? ⟨B, 0, none⟩ = some (.func (.func g) #[] #[]) := hB.cell 0
  go_enter Try.func80, Try.ntmps80
  go_wp2_with (go_at_fn g; refine hC.mono ?_; rintro e w' ⟨rfl, hG⟩)
  go_ret
  exact ⟨by simp, hG⟩
end Go.Proofs.Ytpjfdfddcnocpaa
