import Derived.Test.YtpjfdfddcnocpaaOa
set_option linter.unusedSimpArgs false
set_option linter.unusedVariables false
namespace Go.Proofs.Ytpjfdfddcnocpaa
open Go.RowKit Go.Shelf
attribute [local go_sem] Oper.semAt_some wide_fn wide_dep

/-- ints at a block -/
def IntsIn (W : World) (g off : Nat) (ls : List Int) : Prop := ∀ k, k < ls.length → W.cell? ⟨g, off + k, none⟩ = some (.int .i64 (ls.getD k 0))
theorem IntsIn.kb {A W : World} {g off : Nat} {ls : List Int} (h : IntsIn A g off ls) (hk : KB g A W) : IntsIn W g off ls :=
  fun k hl => (World.cell?_of_block (a := ⟨g, off + k, none⟩) hk).trans (h k hl)

set_option maxRecDepth 100000 in
set_option maxHeartbeats 2000000 in
theorem vals_in (F : Fence) (n : Nat) (h105 : F.fn 105) (hro : F.round = none) (hn : 1 ≤ n) (l B g off cap : Nat) (ls : List Int) (hlen : ls.length ≤ 4611686018427387904)
    (J Jx : List Int → World → Prop)
    (hY : ∀ pre x W, J pre W → pre.length < ls.length → YieldAt F (n - 1) Try.prog l #[.int .i64 x] W fun e W' =>
      (e = .returned (.bool true) ∧ J (pre ++ [x]) W' ∧ KB g W W') ∨ (e = .returned (.bool false) ∧ Jx (pre ++ [x]) W'))
    (W : World) (hBs : Blk W B 22 #[.slice (some ⟨g, off, none⟩) ls.length cap]) (hI : IntsIn W g off ls) (h0 : J [] W) :
    CallsIn F n Try.prog 105 #[.func (.yield l) #[] #[], .pointer (some ⟨B, 0, none⟩)] W fun e W' => (∃ v, e = .returned v) ∧
      ((∃ ys, ys = ls ∧ J ys W') ∨ (∃ pre, pre <+: ls ∧ Jx pre W')) := by
  have c0 : W.cell? ⟨B, 0, none⟩ = some (.slice (some ⟨g, off, none⟩) ls.length cap) := hBs.cell 0
  refine callsIn_of_wp Try.func105 rfl h105 ?_ hro
  simp only [Try.ntmps105, List.size_toArray, List.length_cons, List.length_nil, Nat.reduceAdd, Nat.reduceSub, Array.replicate_succ, Array.replicate_zero, List.push_toArray, List.append_toArray, List.nil_append, List.cons_append]
  gi_wp2
  gi_loopw [7] (fun i wr => ∃ y : Nat, y ≤ ls.length ∧ i = .int .i64 y ∧ J (ls.take y) wr ∧ KB g W wr)
    (fun i _ => ls.length - (intOf i).toNat)
  case atStart => exact ⟨0, Nat.zero_le _, rfl, h0, KB.rf _ _⟩
  case round =>
    obtain ⟨y, hy, rfl, hJs, hnx⟩ := hrel
    by_cases hlt : y < ls.length
    · have hx : wr.cell? ⟨g, off + y, none⟩ = some (.int .i64 (ls.getD y 0)) := (hI.kb hnx) y hlt
      have hyi : (y : Int) < ls.length := by omega
      have hsn : ls.take (y + 1) = ls.take y ++ [ls.getD y 0] := by
        rw [List.take_succ_eq_append_getElem hlt]; simp [hlt]
      generalize ls.getD y 0 = x at hx hsn
      have HSN := Lib.hid hsn
      clear hsn
      have hpl : (ls.take y).length < ls.length := by simp; omega
      obtain ⟨fn, tmps, assign, body, hy', hR⟩ := hY _ x _ hJs hpl
      gi_wp2
      refine hR.mono ?_
      rintro e W3 (⟨rfl, hJ3, hk3⟩ | ⟨rfl, hJx3⟩)
      · gi_wp2
        go_roundw
        case rel => exact ⟨y + 1, by omega, by simp, by rw [HSN.out]; exact hJ3, hnx.t hk3⟩
        case measure => simp [intOf]; omega
      · gi_wp2
        refine bodyPost_ret (results_none rfl _ _ _) rfl ?_
        exact ⟨⟨_, rfl⟩, .inr ⟨_, by rw [← HSN.out]; exact List.take_prefix _ _, hJx3⟩⟩
    · have hta : ls.take y = ls := List.take_of_length_le (by omega)
      rw [hta] at hJs
      gi_wp2
      go_end0
      exact ⟨⟨_, rfl⟩, .inl ⟨_, rfl, hJs⟩⟩

theorem Values_any (a : Option Addr) (k c : Nat) (w : World) :
    Calls Try.prog 90 #[.slice a k c] w fun e w' => e = .returned (.func (.func 105) #[] #[.pointer (some ⟨w.heap.size, 0, none⟩)]) ∧ w' = w.alloc (.cells #[.slice a k c] 22) := by
  go_enter Try.func90, Try.ntmps90
  go_wp2
  go_ret
  exact ⟨rfl, rfl⟩
end Go.Proofs.Ytpjfdfddcnocpaa
