import Derived.Test.YtpjfdfddcnocpaaCe
set_option linter.unusedSimpArgs false
set_option linter.unusedVariables false
namespace Go.Proofs.Ytpjfdfddcnocpaa
open Go.RowKit

def rnd (rule : Int) (n : Nat) : Nat := if rule = 0 then rt n / 2 else if rule = 1 then (rt n + 1) / 2 else (rtUp n + 1) / 2

def RoundAt (w : World) (f : Value) (rule : Int) : Prop := ∃ g lb, f = .func (.func g) #[] lb ∧ (∀ args w, (callFunc g args).run Try.prog w = .ok (.enter g args) w) ∧
  ∀ W n, G w W → 0 ≤ n → n ≤ 6400000160000000 → Calls Try.prog g (#[.int .i64 n] ++ lb) W fun e w' => e = .returned (.int .i64 (rnd rule n.toNat)) ∧ G W w'

def RoundPost (w : World) (rule : Int) (e : Ending) (w' : World) : Prop := ∃ f, e = .returned (.tuple #[f, .bool true]) ∧ G w w' ∧ RoundAt w' f rule

set_option maxHeartbeats 1000000 in
theorem rounding_bad (rule : Int) (w : World) (h : rule < 0 ∨ 2 < rule) :
    Calls Try.prog 53 #[.int .i64 rule] w fun e w' => e = .returned (.tuple #[.nilFunc, .bool false]) ∧ G w w' := by
  have h0 : (rule == 0) = false := by simp; omega
  have h1 : (rule == 1) = false := by simp; omega
  have h2 : (rule == 2) = false := by simp; omega
  clear h
  go_enter Try.func53, Try.ntmps53
  go_wp2
  go_ret2
  exact ⟨rfl, G.rf _⟩

set_option maxHeartbeats 1000000 in
theorem rounding_ok (rule : Int) (w : World) (h : 0 ≤ rule ∧ rule ≤ 2) : Calls Try.prog 53 #[.int .i64 rule] w (RoundPost w rule) := by
  have h : rule = 0 ∨ rule = 1 ∨ rule = 2 := by omega
  rcases h with rfl | rfl | rfl
  · go_enter Try.func53, Try.ntmps53
    go_wp2
    go_ret2
    exact ⟨_, rfl, G.rf _, 63, #[], rfl, enters_of Try.func63 (by kernel_rfl) rfl, fun W n hW h0 h1 => down_any n W ⟨h0, h1⟩⟩
  · go_enter Try.func53, Try.ntmps53
    go_wp2
    go_ret2
    refine ⟨_, rfl, (G.rf _).a _, 80, #[.pointer (some ⟨w.heap.size, 0, none⟩)], rfl, enters_of Try.func80 (by kernel_rfl) rfl, fun W n hW h0 h1 => ?_⟩
    have hb := rt_le n.toNat 80000000 (by omega) (by omega)
    exact halved_any n w.heap.size 81 (rt n.toNat + 1) W ((Blk.new w 71 _).keep hW) (enters_of Try.func81 (by kernel_rfl) rfl) (by omega) (near2_any n W ⟨h0, h1⟩)
  · go_enter Try.func53, Try.ntmps53
    go_wp2
    go_ret2
    refine ⟨_, rfl, (G.rf _).a _, 80, #[.pointer (some ⟨w.heap.size, 0, none⟩)], rfl, enters_of Try.func80 (by kernel_rfl) rfl, fun W n hW h0 h1 => ?_⟩
    have hb := rtUp_le n.toNat (by omega)
    exact halved_any n w.heap.size 83 (rtUp n.toNat + 1) W ((Blk.new w 71 _).keep hW) (enters_of Try.func83 (by kernel_rfl) rfl) (by omega) (up2_any n W ⟨h0, h1⟩)
end Go.Proofs.Ytpjfdfddcnocpaa
