import Derived.RangeFuncNested
import Derived.RangeFuncBound
import Derived.RangeFuncCalls
import Derived.RangeFuncLeaves
import Derived.Shelf.Abstract
import Derived.Shelf.RegionOpen
import Derived.WalkKit
import Derived.OwnWalkIn
import Derived.TacticsInMore
import Derived.LoopNIn
import Derived.LoopIn
import Derived.Test.YtpjfdfddcnocpaaCw
set_option linter.unusedSimpArgs false
set_option linter.unusedVariables false
namespace Go.Proofs.Ytpjfdfddcnocpaa
open Go.RowKit Go.Shelf
attribute [local go_sem] Oper.semAt_some

def rowP (y n : Nat) : List (Nat × Nat) := (List.range n).map fun x => (x, y)
def allP (cols rows : Nat) : List (Nat × Nat) := (List.range rows).flatMap fun y => rowP y cols
def ptV (p : Nat × Nat) : Value := .agg #[.int .i64 p.1, .int .i64 p.2]

theorem rowP_succ (y n : Nat) : rowP y (n + 1) = rowP y n ++ [(n, y)] := by simp [rowP, List.range_succ]
theorem allP_succ (cols rows : Nat) : allP cols (rows + 1) = allP cols rows ++ rowP rows cols := by simp [allP, List.range_succ, List.flatMap_append]
theorem allP_len (cols rows : Nat) : (allP cols rows).length = rows * cols := by
  induction rows with
  | zero => simp [allP]
  | succ n ih => rw [allP_succ, List.length_append, ih, rowP, List.length_map, List.length_range, Nat.succ_mul]
theorem allP_pre (cols rows y x : Nat) (hy : y < rows) (hx : x ≤ cols) : allP cols y ++ rowP y x <+: allP cols rows := by
  have h1 : allP cols (y + 1) <+: allP cols rows := by
    obtain ⟨k, rfl⟩ : ∃ k, rows = y + 1 + k := ⟨rows - (y + 1), by omega⟩
    clear hy
    induction k with
    | zero => exact List.prefix_rfl
    | succ k ih => exact ih.trans (by rw [show y + 1 + (k + 1) = (y + 1 + k) + 1 from rfl, allP_succ]; exact List.prefix_append _ _)
  refine List.IsPrefix.trans ?_ h1
  rw [allP_succ]
  obtain ⟨k, rfl⟩ : ∃ k, cols = x + k := ⟨cols - x, by omega⟩
  refine (List.prefix_append_right_inj _).2 ?_
  simp [rowP, List.range_add]
/-- what an iterator asks that a round keeps: its own box -/
def KB (B : Nat) (A W : World) : Prop := W.heap[B]? = A.heap[B]?
theorem KB.rf (B : Nat) (A : World) : KB B A A := rfl
theorem KB.t {B : Nat} {A C D : World} (h : KB B A C) (k : KB B C D) : KB B A D := Eq.trans k h
theorem KB.blk {B : Nat} {A W : World} (h : KB B A W) {t : TypeId} {cs : Array Value} (k : Blk A B t cs) : Blk W B t cs := Eq.trans h k
theorem KB.b {B : Nat} {w : World} (hB : B < w.heap.size) (W : World) (l : Nat) (o o' : Obj) (hl : w.heap.size ≤ l) (_ : W.heap[l]? = some o) (_ : o.isCells = false) (_ : o.isWalk = false) : KB B W (W.putObj l o') :=
  World.putObj_heap_other (by omega)
theorem rowP_len (y n : Nat) : (rowP y n).length = n := by simp [rowP]

set_option maxRecDepth 100000 in
set_option maxHeartbeats 2000000 in
theorem allPl_in (F : Fence) (n : Nat) (h106 : F.fn 106) (hro : F.round = none) (hn : 1 ≤ n) (l B cols rows ec : Nat) (north : Int) (ea : Option Addr) (lv sv wv : Value) (hc1 : cols ≤ 10) (hr1 : rows ≤ 10)
    (J Jx : List (Nat × Nat) → World → Prop)
    (hY : ∀ pre x W, x.1 < cols → x.2 < rows → J pre W → pre.length < rows * cols → YieldAt F (n - 1) Try.prog l #[ptV x] W fun e W' =>
      (e = .returned (.bool true) ∧ J (pre ++ [x]) W' ∧ KB B W W') ∨ (e = .returned (.bool false) ∧ Jx (pre ++ [x]) W'))
    (W : World) (hBs : Blk W B 25 #[.int .i64 north, .int .i64 cols, .slice ea rows ec, lv, sv, wv]) (h0 : J [] W) :
    CallsIn F n Try.prog 106 #[.func (.yield l) #[] #[], .pointer (some ⟨B, 0, none⟩)] W fun e W' => (∃ v, e = .returned v) ∧
      ((∃ ys, ys = allP cols rows ∧ J ys W') ∨ (∃ pre, pre <+: allP cols rows ∧ Jx pre W')) := by
  have c2 := hBs.cell 2
  have c1 := hBs.cell 1
  refine callsIn_of_wp Try.func106 rfl h106 ?_ hro
  simp only [Try.ntmps106, List.size_toArray, List.length_cons, List.length_nil, Nat.reduceAdd, Nat.reduceSub, Array.replicate_succ, Array.replicate_zero, List.push_toArray, List.append_toArray, List.nil_append, List.cons_append]
  gi_wp2
  gi_loopw [8] (fun i wr => ∃ y : Nat, y ≤ rows ∧ i = .int .i64 y ∧ J (allP cols y) wr ∧ KB B W wr)
    (fun i _ => rows - (intOf i).toNat)
  case atStart => exact ⟨0, Nat.zero_le _, rfl, h0, KB.rf _ _⟩
  case round =>
    obtain ⟨y, hy, rfl, hJs, hnx⟩ := hrel
    by_cases hlt : y < rows
    · have c1' : wr.cell? ⟨B, 1, none⟩ = some (.int .i64 cols) := (hnx.blk hBs).cell 1
      obtain ⟨wo, rfl⟩ : ∃ wo, wo = wr := ⟨_, rfl⟩
      gi_wp2
      gi_loopw [13] (fun i wi => ∃ x : Nat, x ≤ cols ∧ i = .int .i64 x ∧ J (allP cols y ++ rowP y x) wi ∧ KB B W wi)
        (fun i _ => cols - (intOf i).toNat)
      case atStart => exact ⟨0, Nat.zero_le _, rfl, by simpa [rowP] using hJs, hnx⟩
      case round =>
        rename_i wi _ _ _ _ _ _ _ _ _ _
        obtain ⟨x, hx, rfl, hJi, hni⟩ := hrel
        by_cases hlx : x < cols
        · have hlen : (allP cols y ++ rowP y x).length < rows * cols := by
            rw [List.length_append, allP_len, rowP_len]
            have := Nat.mul_le_mul_right cols (show y + 1 ≤ rows by omega)
            rw [Nat.succ_mul] at this
            omega
          obtain ⟨fn, tmps, assign, body, hy', hR⟩ := hY _ (x, y) _ hlx hlt hJi hlen
          dsimp only [ptV] at hy'
          gi_wp2
          refine hR.mono ?_
          rintro e W3 (⟨rfl, hJ3, hk3⟩ | ⟨rfl, hJx3⟩)
          · gi_wp2
            go_roundw
            case rel => exact ⟨x + 1, by omega, by simp, by rw [rowP_succ, ← List.append_assoc]; exact hJ3, hni.t hk3⟩
            case measure => simp [intOf]; omega
          · gi_wp2
            refine bodyPost_ret (results_none rfl _ _ _) rfl ?_
            exact ⟨⟨_, rfl⟩, .inr ⟨_, by rw [List.append_assoc, ← rowP_succ]; exact allP_pre cols rows y (x + 1) hlt (by omega), hJx3⟩⟩
        · obtain rfl : x = cols := by omega
          gi_wp2
          go_roundw
          case rel => exact ⟨y + 1, by omega, by simp, by rw [allP_succ]; exact hJi, hni⟩
          case measure => simp [intOf]; omega
    · obtain rfl : y = rows := by omega
      gi_wp2
      go_end0
      exact ⟨⟨_, rfl⟩, .inl ⟨_, rfl, hJs⟩⟩

/-- a place of a map -/
abbrev Pl (cols rows : Nat) := { p : Nat × Nat // p.1 < cols ∧ p.2 < rows }
theorem allPl_stops (n : Nat) (hn : 1 ≤ n) (B cols rows ec : Nat) (north : Int) (ea : Option Addr) (lv sv wv : Value) (hc1 : cols ≤ 10) (hr1 : rows ≤ 10) (w : World)
    (hBs : Blk w B 25 #[.int .i64 north, .int .i64 cols, .slice ea rows ec, lv, sv, wv]) :
    SeqStopsK Fence.wide n Try.prog 106 #[.pointer (some ⟨B, 0, none⟩)] (fun x : Pl cols rows => #[ptV x.1]) (KB B) (fun ys => ys.map (·.1) = allP cols rows) (fun pre => pre.map (·.1) <+: allP cols rows) (rows * cols) w :=
  fun l J Jx W hW _ _ hY h0 => by
    refine (allPl_in Fence.wide n trivial rfl hn l B cols rows ec north ea lv sv wv hc1 hr1 (fun p W => ∃ p' : List (Pl cols rows), p'.map (·.1) = p ∧ J p' W) (fun p W => ∃ p' : List (Pl cols rows), p'.map (·.1) = p ∧ Jx p' W) ?_ W (hBs.keep hW) ⟨[], rfl, h0⟩).mono ?_
    · rintro pre x W1 h1 h2 ⟨p', rfl, hJ⟩ hlen
      obtain ⟨fn, tmps, assign, body, hy, hR⟩ := hY p' ⟨x, h1, h2⟩ W1 hJ (by simpa using hlen)
      refine ⟨fn, tmps, assign, body, hy, hR.mono ?_⟩
      rintro e W' (⟨he, hj, hk⟩ | ⟨he, hj⟩)
      · exact .inl ⟨he, ⟨_, by simp, hj⟩, hk⟩
      · exact .inr ⟨he, ⟨_, by simp, hj⟩⟩
    · rintro e W' ⟨hv, ⟨ys, rfl, p', hp, hj⟩ | ⟨pre, hp, p', rfl, hj⟩⟩
      · exact ⟨hv, .inl ⟨p', hp, hj⟩⟩
      · exact ⟨hv, .inr ⟨p', hp, hj⟩⟩

theorem allPlaces_any (north : Int) (v1 v2 v3 v4 v5 : Value) (w : World) :
    Calls Try.prog 93 #[.agg #[.int .i64 north, v1, v2, v3, v4, v5]] w fun e w' => e = .returned (.func (.func 106) #[] #[.pointer (some ⟨w.heap.size, 0, none⟩)]) ∧ w' = w.alloc (.cells #[.int .i64 north, v1, v2, v3, v4, v5] 25) := by
  go_enter Try.func93, Try.ntmps93
  go_wp2
  go_ret
  exact ⟨rfl, rfl⟩
end Go.Proofs.Ytpjfdfddcnocpaa
