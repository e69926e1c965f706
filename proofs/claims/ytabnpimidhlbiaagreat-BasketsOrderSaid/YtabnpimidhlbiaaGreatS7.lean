import Derived.Below
import Derived.BigQuiet
import Derived.ChangeOld
import Derived.Deep.AppendLies
import Derived.Deep.Draws
import Derived.Deep.QuietTactic
import Derived.Deep.RegionHeld
import Derived.Deep.Slices
import Derived.Ground.Names2Prog
import Derived.Ground.SlsfProg
import Derived.Ground.SlsoProg
import Derived.IntWalk
import Derived.Laws.AppendOwn
import Derived.Laws.AppendOwnNone
import Derived.Laws.IdiomCopy
import Derived.Laws.OwnMore
import Derived.Laws.Rows
import Derived.Laws.StructEq
import Derived.Lib.Hide
import Derived.Lib.SlKeysI
import Derived.Lib.SliceRun
import Derived.Lib.SmallJoins
import Derived.LoopIn
import Derived.LoopNIn
import Derived.Maps.OwnSet
import Derived.Maps.Views
import Derived.OpenShut
import Derived.OrdersHeld
import Derived.OrdersIn
import Derived.Outline
import Derived.OwnWalkIn
import Derived.ProofKit
import Derived.RangeFuncBound
import Derived.RangeFuncCalls
import Derived.RangeFuncLeaves
import Derived.RangeFuncNested
import Derived.Shelf.Abstract
import Derived.Shelf.GgSortFunc.InsertionK
import Derived.Shelf.RegionOpen
import Derived.Shelf.SlSortCmp.NoneTotal
import Derived.Shelf.SlSortCmp.WholeK
import Derived.Shelf.SlSorted.Search
import Derived.Shelf.Slices.Cells
import Derived.Shelf.Slices.CompactI
import Derived.Shelf.Slices.In.SortNone
import Derived.Shelf.Slices.SearchI
import Derived.Shelf.Small.Bits
import Derived.Shelf.Sort.Plain
import Derived.Shelf.Strconv.Itoa0
import Derived.Sort.Grow
import Derived.TacticsIn
import Derived.TacticsInMore
import Derived.Test.YtabnpimidhlbiaaGreatProg
import Derived.WalkKit
import Derived.WalkMore
import Derived.WalkSpells
import Derived.Test.YtabnpimidhlbiaaGreatS6
set_option linter.unusedSimpArgs false
set_option linter.unusedVariables false
namespace Go.Proofs.YtabnpimidhlbiaaGreat
open Go.RowKit Go.Shelf Go.Sort
attribute [local go_sem] Oper.semAt_some
theorem exA_cells : (#[.int .i64 1, .int .i64 5, .int .i64 1, .int .i64 0, .int .i64 0, .int .i64 7, .int .i64 8, .int .i64 0, .int .i64 2, .int .i64 6, .int .i64 1, .int .i64 0, .int .i64 1, .int .i64 7, .int .i64 9, .int .i64 0, .int .i64 3, .int .i64 7, .int .i64 1, .int .i64 1, .int .i64 2, .int .i64 8, .int .i64 9, .int .i64 0, .int .i64 4, .int .i64 10, .int .i64 3, .int .i64 0, .int .i64 0, .int .i64 0, .int .i64 0, .int .i64 501, .int .i64 5, .int .i64 10, .int .i64 3, .int .i64 1, .int .i64 0, .int .i64 0, .int .i64 0, .int .i64 502, .int .i64 6, .int .i64 40, .int .i64 4, .int .i64 0, .int .i64 0, .int .i64 0, .int .i64 0, .int .i64 501, .int .i64 7, .int .i64 60, .int .i64 4, .int .i64 0, .int .i64 0, .int .i64 0, .int .i64 0, .int .i64 0, .int .i64 8, .int .i64 80, .int .i64 5, .int .i64 0, .int .i64 0, .int .i64 0, .int .i64 0, .int .i64 0, .int .i64 9, .int .i64 80, .int .i64 5, .int .i64 1, .int .i64 0, .int .i64 0, .int .i64 0, .int .i64 502, .int .i64 10, .int .i64 81, .int .i64 2, .int .i64 0, .int .i64 0, .int .i64 0, .int .i64 0, .int .i64 0] : Array Value) = (acV exA).toArray := rfl
theorem exD_cells : (#[.int .i64 3, .int .i64 0, .int .i64 0, .int .i64 30, .int .i64 4, .int .i64 0, .int .i64 31, .int .i64 50, .int .i64 4, .int .i64 1, .int .i64 0, .int .i64 99] : Array Value) = (duV exD).toArray := rfl
def exR (B : Nat) : Cv := exC (some ⟨B + 1, 0, none⟩) 10 (some ⟨B + 1 + 1, 0, none⟩) 3
theorem exR_v (B : Nat) : (exR B).v = #[.int .i64 2, .int .i64 3, .slice (some ⟨B + 1, 0, none⟩) 10 10, .slice (some ⟨B + 1 + 1, 0, none⟩) 3 3, .int .i64 100] := rfl
theorem exR_at {B : Nat} {W : World} (h1 : Blk W (B + 1) 54 #[.int .i64 1, .int .i64 5, .int .i64 1, .int .i64 0, .int .i64 0, .int .i64 7, .int .i64 8, .int .i64 0, .int .i64 2, .int .i64 6, .int .i64 1, .int .i64 0, .int .i64 1, .int .i64 7, .int .i64 9, .int .i64 0, .int .i64 3, .int .i64 7, .int .i64 1, .int .i64 1, .int .i64 2, .int .i64 8, .int .i64 9, .int .i64 0, .int .i64 4, .int .i64 10, .int .i64 3, .int .i64 0, .int .i64 0, .int .i64 0, .int .i64 0, .int .i64 501, .int .i64 5, .int .i64 10, .int .i64 3, .int .i64 1, .int .i64 0, .int .i64 0, .int .i64 0, .int .i64 502, .int .i64 6, .int .i64 40, .int .i64 4, .int .i64 0, .int .i64 0, .int .i64 0, .int .i64 0, .int .i64 501, .int .i64 7, .int .i64 60, .int .i64 4, .int .i64 0, .int .i64 0, .int .i64 0, .int .i64 0, .int .i64 0, .int .i64 8, .int .i64 80, .int .i64 5, .int .i64 0, .int .i64 0, .int .i64 0, .int .i64 0, .int .i64 0, .int .i64 9, .int .i64 80, .int .i64 5, .int .i64 1, .int .i64 0, .int .i64 0, .int .i64 0, .int .i64 502, .int .i64 10, .int .i64 81, .int .i64 2, .int .i64 0, .int .i64 0, .int .i64 0, .int .i64 0, .int .i64 0]) (h2 : Blk W (B + 1 + 1) 56 #[.int .i64 3, .int .i64 0, .int .i64 0, .int .i64 30, .int .i64 4, .int .i64 0, .int .i64 31, .int .i64 50, .int .i64 4, .int .i64 1, .int .i64 0, .int .i64 99]) : (exR B).At W := by
  refine ⟨?_, ?_, (show 10 ≤ 1000 by decide), (show 3 ≤ 1000 by decide), (show IntKind.i64.wrap (2 - 1) = 2 - 1 by decide), (show IntKind.i64.wrap (3 - 1) = 3 - 1 by decide)⟩
  · refine .inr ⟨_, 0, rfl, h1.lt, fun i hi r hr => ?_⟩
    rw [exA_cells] at h1
    have e := acV_get exA (i := i) (r := r) hi hr
    rw [h1.cell, Nat.zero_add, List.getElem?_toArray, e, acE, Array.getElem?_toList]
    rfl
  · refine .inr ⟨_, 0, rfl, h2.lt, fun i hi r hr => ?_⟩
    rw [exD_cells] at h2
    have e := duV_get exD (i := i) (r := r) hi hr
    rw [h2.cell, Nat.zero_add, List.getElem?_toArray, e, duE, Array.getElem?_toList]
    rfl
theorem res31 (tmps : Array Value) (w : World) (g : Nat) (a2 a3 : Option Addr) (h : tmps.getD 0 undef = .pointer (some ⟨g, 0, none⟩)) (hB : Blk w g 25 #[.int .i64 2, .int .i64 3, .slice a2 10 10, .slice a3 3 3, .int .i64 100]) :
    (results Tryz.f31 tmps).run Tryz.prog w = .ok (.agg #[.int .i64 2, .int .i64 3, .slice a2 10 10, .slice a3 3 3, .int .i64 100]) w := by
  have c0 := hB.cell 0
  have c1 := hB.cell 1
  have c2 := hB.cell 2
  have c3 := hB.cell 3
  have c4 := hB.cell 4
  clear hB
  have hr : Tryz.f31.results = #[.cell 0 25] := rfl
  have h' : tmps[0]?.getD undef = .pointer (some ⟨g, 0, none⟩) := by simpa using h
  simp only [results, hr]
  go_simp
set_option maxRecDepth 100000 in
set_option maxHeartbeats 8000000 in
theorem Example_any (w : World) : Calls Tryz.prog 31 #[] w fun e w' => e = .returned (.agg (exR w.heap.size).v) ∧ (exR w.heap.size).At w' ∧ G w w' := by
  obtain ⟨W0, hW0⟩ : ∃ W0, W0 = w.alloc (.cells #[.int .i64 2, .int .i64 3, .slice (some ⟨w.heap.size + 1, 0, none⟩) 10 10, .slice (some ⟨w.heap.size + 1 + 1, 0, none⟩) 3 3, .int .i64 100] 25) := ⟨_, rfl⟩
  have hs0 : W0.heap.size = w.heap.size + 1 := by rw [hW0, World.size_alloc]
  obtain ⟨W1, hW1⟩ : ∃ W1, W1 = W0.alloc (.cells #[.int .i64 1, .int .i64 5, .int .i64 1, .int .i64 0, .int .i64 0, .int .i64 7, .int .i64 8, .int .i64 0, .int .i64 2, .int .i64 6, .int .i64 1, .int .i64 0, .int .i64 1, .int .i64 7, .int .i64 9, .int .i64 0, .int .i64 3, .int .i64 7, .int .i64 1, .int .i64 1, .int .i64 2, .int .i64 8, .int .i64 9, .int .i64 0, .int .i64 4, .int .i64 10, .int .i64 3, .int .i64 0, .int .i64 0, .int .i64 0, .int .i64 0, .int .i64 501, .int .i64 5, .int .i64 10, .int .i64 3, .int .i64 1, .int .i64 0, .int .i64 0, .int .i64 0, .int .i64 502, .int .i64 6, .int .i64 40, .int .i64 4, .int .i64 0, .int .i64 0, .int .i64 0, .int .i64 0, .int .i64 501, .int .i64 7, .int .i64 60, .int .i64 4, .int .i64 0, .int .i64 0, .int .i64 0, .int .i64 0, .int .i64 0, .int .i64 8, .int .i64 80, .int .i64 5, .int .i64 0, .int .i64 0, .int .i64 0, .int .i64 0, .int .i64 0, .int .i64 9, .int .i64 80, .int .i64 5, .int .i64 1, .int .i64 0, .int .i64 0, .int .i64 0, .int .i64 502, .int .i64 10, .int .i64 81, .int .i64 2, .int .i64 0, .int .i64 0, .int .i64 0, .int .i64 0, .int .i64 0] 54) := ⟨_, rfl⟩
  have hs1 : W1.heap.size = w.heap.size + 1 + 1 := by rw [hW1, World.size_alloc, hs0]
  obtain ⟨W2, hW2⟩ : ∃ W2, W2 = W1.alloc (.cells #[.int .i64 3, .int .i64 0, .int .i64 0, .int .i64 30, .int .i64 4, .int .i64 0, .int .i64 31, .int .i64 50, .int .i64 4, .int .i64 1, .int .i64 0, .int .i64 99] 56) := ⟨_, rfl⟩
  have n0 : Blk W0 w.heap.size 25 #[.int .i64 2, .int .i64 3, .slice (some ⟨w.heap.size + 1, 0, none⟩) 10 10, .slice (some ⟨w.heap.size + 1 + 1, 0, none⟩) 3 3, .int .i64 100] := by rw [hW0]; exact Blk.new _ _ _
  have n1 : Blk W1 (w.heap.size + 1) 54 #[.int .i64 1, .int .i64 5, .int .i64 1, .int .i64 0, .int .i64 0, .int .i64 7, .int .i64 8, .int .i64 0, .int .i64 2, .int .i64 6, .int .i64 1, .int .i64 0, .int .i64 1, .int .i64 7, .int .i64 9, .int .i64 0, .int .i64 3, .int .i64 7, .int .i64 1, .int .i64 1, .int .i64 2, .int .i64 8, .int .i64 9, .int .i64 0, .int .i64 4, .int .i64 10, .int .i64 3, .int .i64 0, .int .i64 0, .int .i64 0, .int .i64 0, .int .i64 501, .int .i64 5, .int .i64 10, .int .i64 3, .int .i64 1, .int .i64 0, .int .i64 0, .int .i64 0, .int .i64 502, .int .i64 6, .int .i64 40, .int .i64 4, .int .i64 0, .int .i64 0, .int .i64 0, .int .i64 0, .int .i64 501, .int .i64 7, .int .i64 60, .int .i64 4, .int .i64 0, .int .i64 0, .int .i64 0, .int .i64 0, .int .i64 0, .int .i64 8, .int .i64 80, .int .i64 5, .int .i64 0, .int .i64 0, .int .i64 0, .int .i64 0, .int .i64 0, .int .i64 9, .int .i64 80, .int .i64 5, .int .i64 1, .int .i64 0, .int .i64 0, .int .i64 0, .int .i64 502, .int .i64 10, .int .i64 81, .int .i64 2, .int .i64 0, .int .i64 0, .int .i64 0, .int .i64 0, .int .i64 0] := by rw [hW1]; have := Blk.new W0 54 #[.int .i64 1, .int .i64 5, .int .i64 1, .int .i64 0, .int .i64 0, .int .i64 7, .int .i64 8, .int .i64 0, .int .i64 2, .int .i64 6, .int .i64 1, .int .i64 0, .int .i64 1, .int .i64 7, .int .i64 9, .int .i64 0, .int .i64 3, .int .i64 7, .int .i64 1, .int .i64 1, .int .i64 2, .int .i64 8, .int .i64 9, .int .i64 0, .int .i64 4, .int .i64 10, .int .i64 3, .int .i64 0, .int .i64 0, .int .i64 0, .int .i64 0, .int .i64 501, .int .i64 5, .int .i64 10, .int .i64 3, .int .i64 1, .int .i64 0, .int .i64 0, .int .i64 0, .int .i64 502, .int .i64 6, .int .i64 40, .int .i64 4, .int .i64 0, .int .i64 0, .int .i64 0, .int .i64 0, .int .i64 501, .int .i64 7, .int .i64 60, .int .i64 4, .int .i64 0, .int .i64 0, .int .i64 0, .int .i64 0, .int .i64 0, .int .i64 8, .int .i64 80, .int .i64 5, .int .i64 0, .int .i64 0, .int .i64 0, .int .i64 0, .int .i64 0, .int .i64 9, .int .i64 80, .int .i64 5, .int .i64 1, .int .i64 0, .int .i64 0, .int .i64 0, .int .i64 502, .int .i64 10, .int .i64 81, .int .i64 2, .int .i64 0, .int .i64 0, .int .i64 0, .int .i64 0, .int .i64 0]; rw [hs0] at this; exact this
  have n2 : Blk W2 (w.heap.size + 1 + 1) 56 #[.int .i64 3, .int .i64 0, .int .i64 0, .int .i64 30, .int .i64 4, .int .i64 0, .int .i64 31, .int .i64 50, .int .i64 4, .int .i64 1, .int .i64 0, .int .i64 99] := by rw [hW2]; have := Blk.new W1 56 #[.int .i64 3, .int .i64 0, .int .i64 0, .int .i64 30, .int .i64 4, .int .i64 0, .int .i64 31, .int .i64 50, .int .i64 4, .int .i64 1, .int .i64 0, .int .i64 99]; rw [hs1] at this; exact this
  have g0 : G w W0 := by rw [hW0]; exact (G.rf _).a _
  have g1 : G W0 W1 := by rw [hW1]; exact (G.rf _).a _
  have g2 : G W1 W2 := by rw [hW2]; exact (G.rf _).a _
  have HB0 := Lib.hid ((n0.keep g1).keep g2)
  have HX := Lib.hid (And.intro (exR_at (n1.keep g2) n2) ((g0.t g1).t g2))
  clear n0 n1 n2 hs0 hs1 g0 g1 g2
  have HEQ := Lib.hid (show W2 = _ from by rw [hW2, hW1, hW0])
  clear hW2 hW1 hW0
  go_enter Tryz.func31, Tryz.ntmps31
  go_wp2_with fail
  rw [← HEQ.out]
  try simp only [Exit.inBlock, Exit.then]
  refine bodyPost_ret (res31 _ _ w.heap.size _ _ rfl HB0.out) rfl ?_
  exact ⟨rfl, HX.out⟩
theorem exR_E (B : Nat) : folE (exR B) = 0 := by
  obtain ⟨k, hk, _⟩ := exJ (some ⟨B + 1, 0, none⟩) 10 (some ⟨B + 1 + 1, 0, none⟩) 3
  exact folE_some hk
theorem exR_q (B : Nat) : qErr (exR B) true = 0 := by unfold qErr; rw [if_pos (exR_E B), if_pos rfl]
theorem ex_Opn (B : Nat) (W : World) (h : (exR B).At W) : Calls Tryz.prog 23 #[.agg (exR B).v, .int .i64 0] W fun e w' => ∃ g c, e = .returned (.tuple #[.slice (some ⟨g, 0, none⟩) 1 c, .int .i64 0]) ∧ G W w' ∧ g < w'.heap.size ∧ w'.cell? ⟨g, 0, none⟩ = some (.int .i64 40) ∧ w'.cell? ⟨g, 1, none⟩ = some (.int .i64 59) := by
  refine (Openings_any (exR B) 0 W h).mono ?_
  rintro e w' ⟨v, l, rfl, hown, hG, _, hl⟩
  have e0 : upB 0 ((exR B).bks - 1) = true := rfl
  rw [e0, exR_q] at hl ⊢
  obtain ⟨k, hk, _, hps⟩ := exJ (some ⟨B + 1, 0, none⟩) 10 (some ⟨B + 1 + 1, 0, none⟩) 3
  have hl2 := hl rfl k hk
  rw [hps, ex_opn] at hl2
  subst hl2
  obtain ⟨g, cap, cur, rfl, hb, hlt, ht⟩ := own_some hown (by decide)
  exact ⟨g, cap, rfl, hG, hlt, take_cell hb ht (by decide) rfl, take_cell hb ht (by decide) rfl⟩
theorem ex_Str (B : Nat) (W : World) (h : (exR B).At W) : Calls Tryz.prog 11 #[.agg (exR B).v] W fun e w' => ∃ a1 c1 a2 c2, e = .returned (.tuple #[.slice a1 2 c1, .slice a2 2 c2, .int .i64 0]) ∧ G W w' ∧ IntsAt w' a1 [0, 1] ∧ IntsAt w' a2 [0, 1] := by
  refine (Struck_any (exR B) W h).mono ?_
  rintro e w' ⟨v1, v2, l1, l2, rfl, h1, h2, hG, _, hl⟩
  rw [exR_E]
  obtain ⟨k, hk, hpa, hps⟩ := exJ (some ⟨B + 1, 0, none⟩) 10 (some ⟨B + 1 + 1, 0, none⟩) 3
  obtain ⟨e1, e2⟩ := hl k hk
  rw [hps, hpa, show (exR B).bds.toNat = 3 from rfl, ex_sure] at e1
  rw [hps, hpa, show (exR B).bds.toNat = 3 from rfl, ex_may] at e2
  subst e1 e2
  obtain ⟨a1, c1, rfl, r1⟩ := own_ints h1
  obtain ⟨a2, c2, rfl, r2⟩ := own_ints h2
  exact ⟨a1, c1, a2, c2, rfl, hG, r1, r2⟩
theorem ex_Mrk (B : Nat) (ma : Option Addr) (mc : Nat) (W : World) (h : (exR B).At W) (hm : IntsAt W ma [7, 8, 9]) : Calls Tryz.prog 13 #[.agg (exR B).v, .slice ma 3 mc] W fun e w' => ∃ a c, e = .returned (.tuple #[.slice a 3 c, .int .i64 0]) ∧ G W w' ∧ IntsAt w' a [0, 1, 2] := by
  refine (Marked_any (exR B) [7, 8, 9] ma mc W h hm (by decide)).mono ?_
  rintro e w' ⟨v, l, rfl, hown, hG, _, hl⟩
  rw [ex_mrkD, exR_q] at hl ⊢
  obtain ⟨k, hk, hpa, _⟩ := exJ (some ⟨B + 1, 0, none⟩) 10 (some ⟨B + 1 + 1, 0, none⟩) 3
  have hl2 := hl rfl k hk
  rw [hpa, show (exR B).bds.toNat = 3 from rfl, ex_mark] at hl2
  subst hl2
  obtain ⟨a, c, rfl, r⟩ := own_ints hown
  exact ⟨a, c, rfl, hG, r⟩
theorem ex_Alo (B : Nat) (W : World) (h : (exR B).At W) : Calls Tryz.prog 15 #[.agg (exR B).v] W fun e w' => ∃ a c, e = .returned (.tuple #[.slice a 1 c, .int .i64 0]) ∧ G W w' ∧ IntsAt w' a [4] := by
  refine (Alone_any (exR B) W h).mono ?_
  rintro e w' ⟨v, l, er, rfl, hown, hG, _, hl⟩
  obtain ⟨k, hk, _, hps⟩ := exJ (some ⟨B + 1, 0, none⟩) 10 (some ⟨B + 1 + 1, 0, none⟩) 3
  obtain ⟨_, h2⟩ := hl k hk
  rw [hps] at h2
  obtain ⟨e1, rfl⟩ := h2 ex_brk
  rw [show (exR B).duties = exD from rfl, ex_alone] at e1
  subst e1
  obtain ⟨a, c, rfl, r⟩ := own_ints hown
  exact ⟨a, c, rfl, hG, r⟩
theorem eq61 (a b : Int) (w : World) : (binOp .eql 61 (.agg #[.int .i64 a, .int .i64 b]) (.agg #[.int .i64 a, .int .i64 b])).run Tryz.prog w = .ok (.bool true) w := by
  rw [run_eql_struct, show (10000 : Nat) = 9998 + 1 + 1 from rfl, eqSp]
  simp
theorem lit_ints (W : World) (l : List Int) (cs : Array Value) (hc : ∀ k, k < l.length → cs[k]? = some (.int .i64 (l.getD k 0))) : IntsAt (W.alloc (.cells cs 3)) (some ⟨W.heap.size, 0, none⟩) l :=
  .inr ⟨W.heap.size, 0, rfl, (Blk.new W 3 cs).lt, fun k hk => by rw [Nat.zero_add]; exact ((Blk.new W 3 cs).cell k).trans (hc k hk)⟩
theorem lit1 (W : World) (x : Int) : IntsAt (W.alloc (.cells #[.int .i64 x] 3)) (some ⟨W.heap.size, 0, none⟩) [x] := lit_ints W _ _ (fun k hk => match k, hk with | 0, _ => rfl)
theorem lit2 (W : World) (x y : Int) : IntsAt (W.alloc (.cells #[.int .i64 x, .int .i64 y] 3)) (some ⟨W.heap.size, 0, none⟩) [x, y] := lit_ints W _ _ (fun k hk => match k, hk with | 0, _ => rfl | 1, _ => rfl)
theorem lit3 (W : World) (x y z : Int) : IntsAt (W.alloc (.cells #[.int .i64 x, .int .i64 y, .int .i64 z] 3)) (some ⟨W.heap.size, 0, none⟩) [x, y, z] := lit_ints W _ _ (fun k hk => match k, hk with | 0, _ => rfl | 1, _ => rfl | 2, _ => rfl)
set_option maxRecDepth 100000 in
set_option maxHeartbeats 8000000 in
theorem works_any (w : World) : Calls Tryz.prog 9 #[] w fun e w' => e = .returned (.bool true) ∧ G w w' := by
  have HEX := Lib.hid (fun W : World => Example_any W)
  have HOP := Lib.hid ex_Opn
  have HST := Lib.hid ex_Str
  have HMK := Lib.hid ex_Mrk
  have HAL := Lib.hid ex_Alo
  go_enter Tryz.func9, Tryz.ntmps9
  go_upto_region 2 with (go_at_call 31; refine (HEX.out _).mono ?_; rintro e w1 ⟨rfl, hA1, hG1⟩; rw [exR_v])
  have ga := (G.rf w1).a (.cells #[.int .i64 2, .int .i64 3, .slice (some ⟨w.heap.size + 1, 0, none⟩) 10 10, .slice (some ⟨w.heap.size + 1 + 1, 0, none⟩) 3 3, .int .i64 100] 25)
  have b2 : Blk (w1.alloc (.cells #[.int .i64 2, .int .i64 3, .slice (some ⟨w.heap.size + 1, 0, none⟩) 10 10, .slice (some ⟨w.heap.size + 1 + 1, 0, none⟩) 3 3, .int .i64 100] 25)) w1.heap.size 25 #[.int .i64 2, .int .i64 3, .slice (some ⟨w.heap.size + 1, 0, none⟩) 10 10, .slice (some ⟨w.heap.size + 1 + 1, 0, none⟩) 3 3, .int .i64 100] := Blk.new _ _ _
  have HA := Lib.hid (hA1.keep ga)
  have g3 := hG1.t ga
  have HOP2 : Hid (∀ W, G (w1.alloc (.cells #[.int .i64 2, .int .i64 3, .slice (some ⟨w.heap.size + 1, 0, none⟩) 10 10, .slice (some ⟨w.heap.size + 1 + 1, 0, none⟩) 3 3, .int .i64 100] 25)) W → Calls Tryz.prog 23 #[.agg #[.int .i64 2, .int .i64 3, .slice (some ⟨w.heap.size + 1, 0, none⟩) 10 10, .slice (some ⟨w.heap.size + 1 + 1, 0, none⟩) 3 3, .int .i64 100], .int .i64 0] W fun e w' => ∃ g c, e = .returned (.tuple #[.slice (some ⟨g, 0, none⟩) 1 c, .int .i64 0]) ∧ G W w' ∧ g < w'.heap.size ∧ w'.cell? ⟨g, 0, none⟩ = some (.int .i64 40) ∧ w'.cell? ⟨g, 1, none⟩ = some (.int .i64 59)) := fun W hW => by
    have := HOP.out _ W (HA.out.keep hW)
    rw [exR_v] at this
    exact this
  have HST2 : Hid (∀ W, G (w1.alloc (.cells #[.int .i64 2, .int .i64 3, .slice (some ⟨w.heap.size + 1, 0, none⟩) 10 10, .slice (some ⟨w.heap.size + 1 + 1, 0, none⟩) 3 3, .int .i64 100] 25)) W → Calls Tryz.prog 11 #[.agg #[.int .i64 2, .int .i64 3, .slice (some ⟨w.heap.size + 1, 0, none⟩) 10 10, .slice (some ⟨w.heap.size + 1 + 1, 0, none⟩) 3 3, .int .i64 100]] W fun e w' => ∃ a1 c1 a2 c2, e = .returned (.tuple #[.slice a1 2 c1, .slice a2 2 c2, .int .i64 0]) ∧ G W w' ∧ IntsAt w' a1 [0, 1] ∧ IntsAt w' a2 [0, 1]) := fun W hW => by
    have := HST.out _ W (HA.out.keep hW)
    rw [exR_v] at this
    exact this
  have HMK2 : Hid (∀ W ma mc, G (w1.alloc (.cells #[.int .i64 2, .int .i64 3, .slice (some ⟨w.heap.size + 1, 0, none⟩) 10 10, .slice (some ⟨w.heap.size + 1 + 1, 0, none⟩) 3 3, .int .i64 100] 25)) W → IntsAt W ma [7, 8, 9] → Calls Tryz.prog 13 #[.agg #[.int .i64 2, .int .i64 3, .slice (some ⟨w.heap.size + 1, 0, none⟩) 10 10, .slice (some ⟨w.heap.size + 1 + 1, 0, none⟩) 3 3, .int .i64 100], .slice ma 3 mc] W fun e w' => ∃ a c, e = .returned (.tuple #[.slice a 3 c, .int .i64 0]) ∧ G W w' ∧ IntsAt w' a [0, 1, 2]) := fun W ma mc hW hm => by
    have := HMK.out _ ma mc W (HA.out.keep hW) hm
    rw [exR_v] at this
    exact this
  have HAL2 : Hid (∀ W, G (w1.alloc (.cells #[.int .i64 2, .int .i64 3, .slice (some ⟨w.heap.size + 1, 0, none⟩) 10 10, .slice (some ⟨w.heap.size + 1 + 1, 0, none⟩) 3 3, .int .i64 100] 25)) W → Calls Tryz.prog 15 #[.agg #[.int .i64 2, .int .i64 3, .slice (some ⟨w.heap.size + 1, 0, none⟩) 10 10, .slice (some ⟨w.heap.size + 1 + 1, 0, none⟩) 3 3, .int .i64 100]] W fun e w' => ∃ a c, e = .returned (.tuple #[.slice a 1 c, .int .i64 0]) ∧ G W w' ∧ IntsAt w' a [4]) := fun W hW => by
    have := HAL.out _ W (HA.out.keep hW)
    rw [exR_v] at this
    exact this
  clear HA HOP HST HMK HAL HEX ga hA1 hG1
  change Code.wp _ _ _ _ (w1.alloc (.cells #[.int .i64 2, .int .i64 3, .slice (some ⟨w.heap.size + 1, 0, none⟩) 10 10, .slice (some ⟨w.heap.size + 1 + 1, 0, none⟩) 3 3, .int .i64 100] 25))
  obtain ⟨K2, hK2⟩ : ∃ K2, K2 = w1.heap.size := ⟨_, rfl⟩
  rw [← hK2] at b2 ⊢
  clear hK2
  generalize w1.alloc (.cells #[.int .i64 2, .int .i64 3, .slice (some ⟨w.heap.size + 1, 0, none⟩) 10 10, .slice (some ⟨w.heap.size + 1 + 1, 0, none⟩) 3 3, .int .i64 100] 25) = w2 at *
  have m0 := b2.cell 0
  have m1 := b2.cell 1
  have m2 := b2.cell 2
  have m3 := b2.cell 3
  have m4 := b2.cell 4
  have l0 := b2.lt
  go_upto_region 3 with (go_at_call 23; refine (HOP2.out _ (G.rf _)).mono ?_; rintro e w3 ⟨gs, cs, rfl, hG3, hls, hs0, hs1⟩)
  replace b2 := b2.keep hG3
  clear m0 m1 m2 m3 m4 l0
  have m0 := b2.cell 0
  have m1 := b2.cell 1
  have m2 := b2.cell 2
  have m3 := b2.cell 3
  have m4 := b2.cell 4
  have l0 := b2.lt
  go_upto_region 4 with (go_at_call 11; refine (HST2.out _ hG3).mono ?_; rintro e w4 ⟨a1, c1, a2, c2, rfl, hG4, hr1, hr2⟩)
  have h4 := hG3.t hG4
  replace b2 := b2.keep hG4
  clear m0 m1 m2 m3 m4 l0
  have m0 := b2.cell 0
  have m1 := b2.cell 1
  have m2 := b2.cell 2
  have m3 := b2.cell 3
  have m4 := b2.cell 4
  have l0 := b2.lt
  go_upto_region 5 with (go_at_call 13; refine (HMK2.out _ _ _ (h4.a _) (lit3 _ 7 8 9)).mono ?_; rintro e w5 ⟨a3, c3, rfl, hG5, hr3⟩)
  have gA4 : G w4 w5 := ((G.rf w4).a (.cells #[.int .i64 7, .int .i64 8, .int .i64 9] 3)).t hG5
  have h5 := h4.t gA4
  replace b2 := b2.keep gA4
  clear m0 m1 m2 m3 m4 l0
  have m0 := b2.cell 0
  have m1 := b2.cell 1
  have m2 := b2.cell 2
  have m3 := b2.cell 3
  have m4 := b2.cell 4
  have l0 := b2.lt
  go_upto_region 6 with (go_at_call 15; refine (HAL2.out _ h5).mono ?_; rintro e w6 ⟨a4, c4, rfl, hG6, hr4⟩)
  have h6 := h5.t hG6
  have gz := g3.t h6
  have gB3 := (hG4.t gA4).t hG6
  have gB4 := gA4.t hG6
  replace hs0 := ((bcellB gB3).1 gs _ hls).trans hs0
  replace hs1 := ((bcellB gB3).1 gs _ hls).trans hs1
  replace hls := Nat.lt_of_lt_of_le hls gB3.size
  have R1 := Lib.hid (fun (W : World) (hW : G w6 W) (b : Option Addr) (d : Nat) (hb : IntsAt W b [0, 1]) => (show Calls Tryz.prog 17 #[.slice a1 2 c1, .slice b 2 d] W _ from sameI_any [0, 1] a1 b c1 d W ((hr1.below gB4).below hW) hb (by decide)))
  have R2 := Lib.hid (fun (W : World) (hW : G w6 W) (b : Option Addr) (d : Nat) (hb : IntsAt W b [0, 1]) => (show Calls Tryz.prog 17 #[.slice a2 2 c2, .slice b 2 d] W _ from sameI_any [0, 1] a2 b c2 d W ((hr2.below gB4).below hW) hb (by decide)))
  have R3 := Lib.hid (fun (W : World) (hW : G w6 W) (b : Option Addr) (d : Nat) (hb : IntsAt W b [0, 1, 2]) => (show Calls Tryz.prog 17 #[.slice a3 3 c3, .slice b 3 d] W _ from sameI_any [0, 1, 2] a3 b c3 d W ((hr3.below hG6).below hW) hb (by decide)))
  have R4 := Lib.hid (fun (W : World) (hW : G w6 W) (b : Option Addr) (d : Nat) (hb : IntsAt W b [4]) => (show Calls Tryz.prog 17 #[.slice a4 1 c4, .slice b 1 d] W _ from sameI_any [4] a4 b c4 d W (hr4.below hW) hb (by decide)))
  have heq := fun W => eq61 40 59 W
  clear hr1 hr2 hr3 hr4 HOP2 HST2 HMK2 HAL2 m0 m1 m2 m3 m4 l0 b2 g3 hG3 hG4 h4 gA4 h5 hG6 h6 gB3 gB4 hG5
  go_wp2_with (first
    | (go_at_call 17; refine (R1.out _ ((G.rf w6).a _) _ _ (lit2 _ 0 1)).mono ?_; rintro e w7 ⟨rfl, hG7⟩; have g7 := ((G.rf w6).a _).t hG7; clear hs0 hs1 hls R1)
    | (go_at_call 17; refine (R2.out _ (g7.a _) _ _ (lit2 _ 0 1)).mono ?_; rintro e w8 ⟨rfl, hG8⟩; have g8 := (g7.a _).t hG8; clear R2)
    | (go_at_call 17; refine (R3.out _ (g8.a _) _ _ (lit3 _ 0 1 2)).mono ?_; rintro e w9 ⟨rfl, hG9⟩; have g9 := (g8.a _).t hG9; clear R3)
    | (go_at_call 17; refine (R4.out _ (g9.a _) _ _ (lit1 _ 4)).mono ?_; rintro e w10 ⟨rfl, hG10⟩; have g10 := (g9.a _).t hG10))
  have gf := gz.t g10
  first | exact ⟨rfl, gf⟩ | (go_ret; exact ⟨rfl, gf⟩)
end Go.Proofs.YtabnpimidhlbiaaGreat

set_option linter.unusedSimpArgs false
set_option linter.unusedVariables false
namespace Go.Proofs.YtabnpimidhlbiaaGreat
open Go.RowKit Go.Shelf Go.Sort Go.Maps
attribute [local go_sem] Oper.semAt_some
theorem getD_setA {l : List Ac} {i j : Nat} {y : Ac} (hi : i < l.length) : (l.set i y).getD j default = if j = i then y else l.getD j default := by
  rw [List.getD_eq_getElem?_getD, List.getElem?_set]
  by_cases h : i = j
  · subst h
    rw [if_pos rfl, if_pos hi, if_pos rfl]
    rfl
  · rw [if_neg h, if_neg (fun e => h e.symm), List.getD_eq_getElem?_getD]
/-- a whole store at a place of a row of one's own -/
theorem row_put54 {W : World} {B c i : Nat} {a : Option Addr} {L : List Ac} (h : W.ownsRow B 54 8 (.slice a L.length c) L.length (acV L)) (hi : i < L.length) : ∃ g cur, a = some ⟨g, 0, none⟩ ∧ B ≤ g ∧ Blk W g 54 cur ∧ i * 8 + 8 ≤ cur.size ∧ ∀ y : Ac, (W.setCells g (i * 8) (acE y)).ownsRow B 54 8 (.slice a L.length c) L.length (acV (L.set i y)) := by
  rcases h.2 with ⟨_, h0⟩ | ⟨g, cap, cur, he, hb, hg, h1, h2, h3, h4⟩
  · omega
  · injection he with e1 e2 e3
    subst e1 e3
    refine ⟨g, cur, rfl, hb, hg, by have : (i + 1) * 8 ≤ c * 8 := Nat.mul_le_mul_right 8 (by omega); omega, fun y => ?_⟩
    refine ⟨by rw [acV_len, List.length_set], .inr ⟨g, _, _, rfl, hb, Blk.setMany _ _ _ _ hg, h1, h2, by rw [size_setMany]; exact h3, ?_⟩⟩
    apply List.ext_getElem?
    intro t
    by_cases ht : t < L.length * 8
    · have hs : t < cur.size := by have : L.length * 8 ≤ c * 8 := Nat.mul_le_mul_right 8 h1; omega
      rw [List.getElem?_take_of_lt ht, Array.getElem?_toList, many_get hs, acE_len]
      have e2 := acV_get (L.set i y) (i := t / 8) (r := t % 8) (by rw [List.length_set]; omega) (by omega)
      rw [show t / 8 * 8 + t % 8 = t by omega, getD_setA hi] at e2
      rw [e2]
      by_cases hc : i * 8 ≤ t ∧ t < i * 8 + 8
      · rw [if_pos hc, if_pos (by omega), show t - i * 8 = t % 8 by omega]
      · rw [if_neg hc, if_neg (by omega)]
        have e := acV_get L (i := t / 8) (r := t % 8) (by omega) (by omega)
        rw [show t / 8 * 8 + t % 8 = t by omega] at e
        have h5 : (cur.toList.take (L.length * 8))[t]? = (acV L)[t]? := by rw [h4]
        rw [List.getElem?_take_of_lt ht] at h5
        rw [← Array.getElem?_toList, h5, e]
    · rw [List.getElem?_take_eq_none (by omega), List.getElem?_eq_none (by rw [acV_len, List.length_set]; omega)]
theorem wp_storeC {o : Oper} {a : Act} {w : World} {K : Act → World → Prop} {Q : Exit → Act → World → Prop} (g off T : Nat) (d s : Operand) (vs : List Value) {cs : Array Value} {t : TypeId} (ho : o.op = .store T d s) (hv : a.eval d = .pointer (some ⟨g, off, none⟩)) (hs : a.eval s = .agg vs.toArray) (hsz : ∀ w, (Go.sizeOf T).run Tryz.prog w = .ok vs.length w) (hB : Blk w g t cs) (hin : off + vs.length ≤ cs.size) (h1 : ∀ v ∈ vs, v.oneCell' = true)
    (hk : K (a.put o.dst undef) (w.setCells g off vs)) : Oper.wp Tryz.prog o a w K Q := by
  have hst := run_storeCells_cells (P := Tryz.prog) g off vs 0 w (fun j hj => by rw [Nat.add_zero]; exact blk_has hB (by omega)) (fun j hj => hB.frozen _) h1
  rw [Nat.add_zero] at hst
  unfold Oper.wp
  have he : (execOp a.eval o).run Tryz.prog w = .ok .skip (w.setCells g off vs) := by
    unfold execOp
    simp only [ho, hv, hs]
    have hz := hsz w
    go_simp
  rw [he]
  exact hk
theorem size54 (w : World) : (Go.sizeOf 54).run Tryz.prog w = .ok 8 w := by
  have h : (Tryz.prog.info? 54).map (fun i => i.size) = some 8 := by kernel_rfl
  unfold Go.sizeOf
  go_simp
  first | rfl | kernel_rfl
theorem Fr_setCells {R : Nat → Prop} {A : World} {g : Nat} (hg : R g) : ∀ (vs : List Value) (o : Nat) (B : World), Fr R A B → Fr R A (B.setCells g o vs)
  | [], _, _, h => h
  | v :: r, o, B, h => Fr_setCells hg r (o + 1) _ (h.s (p := ⟨g, o, none⟩) (.inl hg) v)
/-- two neighbours change places -/
def swp (L : List Ac) (k : Nat) : List Ac := (L.set k (L.getD (k - 1) default)).set (k - 1) (L.getD k default)
theorem swp_perm (L : List Ac) {k : Nat} (h0 : 0 < k) (hk : k < L.length) : (swp L k).Perm L := by
  obtain ⟨j, rfl⟩ : ∃ j, k = j + 1 := ⟨k - 1, by omega⟩
  have e : swp L (j + 1) = L.take j ++ L.getD (j + 1) default :: L.getD j default :: L.drop (j + 2) := by
    apply List.ext_getElem?
    intro t
    unfold swp
    rw [show j + 1 - 1 = j by omega, List.getElem?_set, List.getElem?_set, List.length_set]
    by_cases h1 : j = t
    · subst h1
      rw [if_pos rfl, if_pos (by omega), List.getElem?_append_right (by rw [List.length_take]; omega), List.length_take, show j - min j L.length = 0 by omega]
      rfl
    · rw [if_neg h1]
      by_cases h2 : j + 1 = t
      · subst h2
        rw [if_pos rfl, if_pos hk, List.getElem?_append_right (by rw [List.length_take]; omega), List.length_take, show j + 1 - min j L.length = 1 by omega]
        rfl
      · rw [if_neg h2]
        rcases Nat.lt_or_ge t j with h3 | h3
        · rw [List.getElem?_append_left (by rw [List.length_take]; omega), List.getElem?_take_of_lt h3]
        · rw [List.getElem?_append_right (by rw [List.length_take]; omega), List.length_take, show t - min j L.length = (t - j - 2) + 1 + 1 by omega, List.getElem?_cons_succ, List.getElem?_cons_succ, List.getElem?_drop, show j + 2 + (t - j - 2) = t by omega]
  have e0 : L = L.take j ++ L.getD j default :: L.getD (j + 1) default :: L.drop (j + 2) := by
    have h1 := List.take_append_drop j L
    have h2 : L.drop j = L.getD j default :: L.drop (j + 1) := by
      rw [List.drop_eq_getElem_cons (by omega), List.getD_eq_getElem?_getD, List.getElem?_eq_getElem (by omega)]
      rfl
    have h3 : L.drop (j + 1) = L.getD (j + 1) default :: L.drop (j + 2) := by
      rw [List.drop_eq_getElem_cons hk, List.getD_eq_getElem?_getD, List.getElem?_eq_getElem hk]
      rfl
    rw [← h3, ← h2, h1]
  rw [e]
  refine List.Perm.trans ?_ (List.Perm.of_eq e0.symm)
  exact List.Perm.append_left _ (List.Perm.swap _ _ _)
/-- convoys that differ in the order of their acts, and in doubles -/
structure Sim (c o : Cv) : Prop where
  bks : o.bks = c.bks
  bds : o.bds = c.bds
  en : o.en = c.en
  du : o.duties = c.duties
  ac : ∀ x, x ∈ c.acts ↔ x ∈ o.acts
  nn : o.acts.length ≤ 40
theorem allU_mem {l : List Ac} {p : Ac → Bool} : allU (fun i => p (l.getD i default)) l.length = true ↔ ∀ a ∈ l, p a = true := by
  rw [allU_iff]
  constructor
  · intro h a ha
    obtain ⟨i, hi, rfl⟩ := List.getElem_of_mem ha
    have := h i hi
    rwa [List.getD_eq_getElem?_getD, List.getElem?_eq_getElem hi] at this
  · intro h i hi
    refine h _ ?_
    rw [List.getD_eq_getElem?_getD, List.getElem?_eq_getElem hi]
    exact List.getElem_mem hi
theorem Sim.vc {c o : Cv} (h : Sim c o) (hv : vcB c = true) : vcB o = true := by
  simp only [vcB, Bool.and_eq_true, decide_eq_true_eq] at hv ⊢
  obtain ⟨h1, h2, h3, h4, h5, h6, h7, h8⟩ := hv
  rw [h.bks, h.bds, h.en, h.du]
  refine ⟨h1, h2, h3, h4, h.nn, ?_, h7, h8⟩
  exact allU_mem.2 fun a ha => allU_mem.1 h6 a ((h.ac a).2 ha)
theorem Sim.one {c o : Cv} (h : Sim c o) (hc : clashB c.acts = false) : clashB o.acts = false := by
  have h1 := (clashB_iff _).1 hc
  exact (clashB_iff _).2 fun a ha b hb e => h1 a ((h.ac a).2 ha) b ((h.ac b).2 hb) e
theorem Sim.foJ {c o : Cv} {k : Jn} (h : Sim c o) (hk : folJ c = some k) : folJ o = some k := by
  obtain ⟨hv, hc, hr⟩ := folJ_some hk
  unfold folJ
  rw [if_pos ⟨h.vc hv, h.one hc⟩, h.en, hrd_eq ((clashB_iff _).1 hc) h.ac]
  exact hr
theorem folE_zero {c : Cv} (h : folE c = 0) : vcB c = true ∧ ∃ k, folJ c = some k := by
  unfold folE at h
  by_cases hv : vcB c = true
  · rw [if_pos hv] at h
    by_cases hs : (folJ c).isSome = true
    · exact ⟨hv, Option.isSome_iff_exists.1 hs⟩
    · rw [if_neg hs] at h; omega
  · rw [if_neg hv] at h; omega
theorem Sim.q {c o : Cv} {k : Jn} (h : Sim c o) (hk : folJ c = some k) (d : Bool) : qErr o d = qErr c d := by
  unfold qErr
  rw [folE_some hk, folE_some (h.foJ hk)]
end Go.Proofs.YtabnpimidhlbiaaGreat

set_option linter.unusedSimpArgs false
set_option linter.unusedVariables false
namespace Go.Proofs.YtabnpimidhlbiaaGreat
open Go.RowKit Go.Shelf Go.Sort
attribute [local go_sem] Oper.semAt_some
theorem run_len (E : Int) : ∀ (l : List Ac) (j k : Jn), run E j l = some k → k.ps.length ≤ j.ps.length + l.length
  | [], j, k, h => by
    have : some j = some k := h
    injection this with e
    subst e
    exact Nat.le_add_right _ _
  | a :: l, j, k, h => by
    have h2 := h
    unfold run at h2
    split at h2
    · have h30 := run_len E l _ _ h2
      have h3 : k.ps.length ≤ (hap E j a).1.ps.length + l.length := h30
      have h4 := hap_ps E j a
      rw [List.length_cons]
      omega
    · cases h2
theorem folJ_len {c : Cv} {k : Jn} (h : folJ c = some k) : k.ps.length ≤ 40 := by
  obtain ⟨hv, _, hr⟩ := folJ_some h
  have h1 := run_len _ _ _ _ hr
  have h2 := hrd_len c.acts
  have h3 := (vcB_act hv).2.2.2.2.2.2.2
  have h4 : Jn.zero.ps.length = 0 := rfl
  omega
theorem opn_fold (ps : List Pe) (bk : Int) : ∀ (qs : List Pe) (l : List (Int × Int)), (qs.foldl (opnS ps bk) l).length ≤ l.length + qs.length
  | [], l => Nat.le_refl _
  | p :: qs, l => by
    have h1 := opn_fold ps bk qs (opnS ps bk l p)
    have h2 := opnS_len ps bk l p
    rw [List.foldl_cons, List.length_cons]
    omega
theorem opnL_len (ps : List Pe) (bk : Int) : (opnL ps bk).length ≤ ps.length := by
  have := opn_fold ps bk ps []
  unfold opnL
  simpa using this
/-- the answers -/
def opnT (k : Jn) (q bk : Int) : List (Int × Int) := if q = 0 then opnL k.ps bk else []
def insT (k : Jn) (q mi bk : Int) (N : Nat) : List Int := if q = 0 then insL k.past mi bk N else []
def aloT (k : Jn) (ds : List Du) : List Int := if brk k.ps = [] then [] else aloL ds k.ps
def aloE (k : Jn) : Int := if brk k.ps = [] then 3 else 0
theorem opn_k {c : Cv} {k : Jn} (hk : folJ c = some k) (bk q : Int) (hq : qErr c (upB bk (c.bks - 1)) = q) (w : World) (h : c.At w) : Calls Tryz.prog 23 #[.agg c.v, .int .i64 bk] w fun e w' => ∃ a cap, e = .returned (.tuple #[.slice a (opnT k q bk).length cap, .int .i64 q]) ∧ SpAt w' a (opnT k q bk) ∧ G w w' := by
  subst hq
  refine (Openings_any c bk w h).mono ?_
  rintro e w' ⟨v, l, rfl, hown, hG, h0, h1⟩
  have el : l = opnT k (qErr c (upB bk (c.bks - 1))) bk := by
    unfold opnT
    by_cases hz : qErr c (upB bk (c.bks - 1)) = 0
    · rw [if_pos hz]; exact h1 hz k hk
    · rw [if_neg hz]; exact h0 hz
  rw [← el]
  obtain ⟨a, cap, rfl, r⟩ := own_sp hown
  exact ⟨a, cap, rfl, r, hG⟩
theorem ins_k {c : Cv} {k : Jn} (hk : folJ c = some k) (mi bk q : Int) (N : Nat) (hN : c.bds.toNat = N) (hq : qErr c (upB mi 9999 && upB bk (c.bks - 1)) = q) (w : World) (h : c.At w) : Calls Tryz.prog 24 #[.agg c.v, .int .i64 mi, .int .i64 bk] w fun e w' => ∃ a cap, e = .returned (.tuple #[.slice a (insT k q mi bk N).length cap, .int .i64 q]) ∧ IntsAt w' a (insT k q mi bk N) ∧ G w w' := by
  subst hq hN
  refine (Inside_any c mi bk w h).mono ?_
  rintro e w' ⟨v, l, rfl, hown, hG, h0, h1⟩
  have el : l = insT k (qErr c (upB mi 9999 && upB bk (c.bks - 1))) mi bk c.bds.toNat := by
    unfold insT
    by_cases hz : qErr c (upB mi 9999 && upB bk (c.bks - 1)) = 0
    · rw [if_pos hz]; exact h1 hz k hk
    · rw [if_neg hz]; exact h0 hz
  rw [← el]
  obtain ⟨a, cap, rfl, r⟩ := own_ints hown
  exact ⟨a, cap, rfl, r, hG⟩
theorem str_k {c : Cv} {k : Jn} (hk : folJ c = some k) (N : Nat) (hN : c.bds.toNat = N) (w : World) (h : c.At w) : Calls Tryz.prog 11 #[.agg c.v] w fun e w' => ∃ a cap b bap, e = .returned (.tuple #[.slice a (struckL k.past k.ps (brk k.ps) N).length cap, .slice b (struckL k.past k.ps k.ps N).length bap, .int .i64 0]) ∧ IntsAt w' a (struckL k.past k.ps (brk k.ps) N) ∧ IntsAt w' b (struckL k.past k.ps k.ps N) ∧ G w w' := by
  subst hN
  refine (Struck_any c w h).mono ?_
  rintro e w' ⟨v1, v2, l1, l2, rfl, hown1, hown2, hG, _, h1⟩
  obtain ⟨e1, e2⟩ := h1 k hk
  rw [← e1, ← e2, folE_some hk]
  obtain ⟨a, cap, rfl, r⟩ := own_ints hown1
  obtain ⟨b, bap, rfl, s⟩ := own_ints hown2
  exact ⟨a, cap, b, bap, rfl, r, s, hG⟩
theorem alo_k {c : Cv} {k : Jn} (hk : folJ c = some k) (w : World) (h : c.At w) : Calls Tryz.prog 15 #[.agg c.v] w fun e w' => ∃ a cap, e = .returned (.tuple #[.slice a (aloT k c.duties).length cap, .int .i64 (aloE k)]) ∧ IntsAt w' a (aloT k c.duties) ∧ G w w' := by
  refine (Alone_any c w h).mono ?_
  rintro e w' ⟨v, l, er, rfl, hown, hG, _, h1⟩
  obtain ⟨e1, e2⟩ := h1 k hk
  have el : l = aloT k c.duties ∧ er = aloE k := by
    unfold aloT aloE
    by_cases hz : brk k.ps = []
    · rw [if_pos hz, if_pos hz]; exact e1 hz
    · rw [if_neg hz, if_neg hz]; exact e2 hz
  rw [← el.1, ← el.2]
  obtain ⟨a, cap, rfl, r⟩ := own_ints hown
  exact ⟨a, cap, rfl, r, hG⟩
theorem opnT_len {c : Cv} {k : Jn} (hk : folJ c = some k) (q bk : Int) : (opnT k q bk).length ≤ 1000 := by
  unfold opnT
  split
  · have := opnL_len k.ps bk
    have := folJ_len hk
    omega
  · exact Nat.zero_le _
theorem insT_len (k : Jn) (q mi bk : Int) {N : Nat} (hN : N ≤ 12) : (insT k q mi bk N).length ≤ 1000 := by
  unfold insT
  split
  · exact Nat.le_trans (numL_len _ _) (by omega)
  · exact Nat.zero_le _
theorem strT_len (past : List Ac) (ps qs : List Pe) {N : Nat} (hN : N ≤ 12) : (struckL past ps qs N).length ≤ 1000 := Nat.le_trans (numL_len _ _) (by omega)
theorem aloT_len (k : Jn) (ds : List Du) : (aloT k ds).length ≤ 1000 := by
  unfold aloT
  split
  · exact Nat.zero_le _
  · exact Nat.le_trans (numL_len _ _) (by omega)
/-- two convoys that differ in the order of their acts answer alike -/
theorem ans_k {c o : Cv} {k : Jn} (hk : folJ c = some k) (hs : Sim c o) (h0 : 0 ≤ c.bds) (h12 : c.bds ≤ 12) (x0 x1 : Int) (W : World) (hc : c.At W) (ho : o.At W) :
    ∃ (LO : List (Int × Int)) (LI LS LM LA : List Int) (q1 q2 q3 : Int), LO.length ≤ 1000 ∧ LI.length ≤ 1000 ∧ LS.length ≤ 1000 ∧ LM.length ≤ 1000 ∧ LA.length ≤ 1000 ∧
      (∀ X, G W X → Calls Tryz.prog 23 #[.agg c.v, .int .i64 x1] X fun e w' => ∃ a cap, e = .returned (.tuple #[.slice a LO.length cap, .int .i64 q1]) ∧ SpAt w' a LO ∧ G X w') ∧
      (∀ X, G W X → Calls Tryz.prog 23 #[.agg o.v, .int .i64 x1] X fun e w' => ∃ a cap, e = .returned (.tuple #[.slice a LO.length cap, .int .i64 q1]) ∧ SpAt w' a LO ∧ G X w') ∧
      (∀ X, G W X → Calls Tryz.prog 24 #[.agg c.v, .int .i64 x0, .int .i64 x1] X fun e w' => ∃ a cap, e = .returned (.tuple #[.slice a LI.length cap, .int .i64 q2]) ∧ IntsAt w' a LI ∧ G X w') ∧
      (∀ X, G W X → Calls Tryz.prog 24 #[.agg o.v, .int .i64 x0, .int .i64 x1] X fun e w' => ∃ a cap, e = .returned (.tuple #[.slice a LI.length cap, .int .i64 q2]) ∧ IntsAt w' a LI ∧ G X w') ∧
      (∀ X, G W X → Calls Tryz.prog 11 #[.agg c.v] X fun e w' => ∃ a cap b bap, e = .returned (.tuple #[.slice a LS.length cap, .slice b LM.length bap, .int .i64 0]) ∧ IntsAt w' a LS ∧ IntsAt w' b LM ∧ G X w') ∧
      (∀ X, G W X → Calls Tryz.prog 11 #[.agg o.v] X fun e w' => ∃ a cap b bap, e = .returned (.tuple #[.slice a LS.length cap, .slice b LM.length bap, .int .i64 0]) ∧ IntsAt w' a LS ∧ IntsAt w' b LM ∧ G X w') ∧
      (∀ X, G W X → Calls Tryz.prog 15 #[.agg c.v] X fun e w' => ∃ a cap, e = .returned (.tuple #[.slice a LA.length cap, .int .i64 q3]) ∧ IntsAt w' a LA ∧ G X w') ∧
      (∀ X, G W X → Calls Tryz.prog 15 #[.agg o.v] X fun e w' => ∃ a cap, e = .returned (.tuple #[.slice a LA.length cap, .int .i64 q3]) ∧ IntsAt w' a LA ∧ G X w') := by
  have hN : c.bds.toNat ≤ 12 := by omega
  have hko := hs.foJ hk
  have hd : o.duties = c.duties := hs.du
  refine ⟨opnT k (qErr c (upB x1 (c.bks - 1))) x1, insT k (qErr c (upB x0 9999 && upB x1 (c.bks - 1))) x0 x1 c.bds.toNat, struckL k.past k.ps (brk k.ps) c.bds.toNat, struckL k.past k.ps k.ps c.bds.toNat, aloT k c.duties, qErr c (upB x1 (c.bks - 1)), qErr c (upB x0 9999 && upB x1 (c.bks - 1)), aloE k,
    opnT_len hk _ _, insT_len _ _ _ _ hN, strT_len _ _ _ hN, strT_len _ _ _ hN, aloT_len _ _, ?_, ?_, ?_, ?_, ?_, ?_, ?_, ?_⟩
  · exact fun X hX => opn_k hk x1 _ rfl X (hc.keep hX)
  · exact fun X hX => opn_k hko x1 _ (by rw [hs.bks]; exact hs.q hk _) X (ho.keep hX)
  · exact fun X hX => ins_k hk x0 x1 _ _ rfl rfl X (hc.keep hX)
  · exact fun X hX => ins_k hko x0 x1 _ _ (by rw [hs.bds]) (by rw [hs.bks]; exact hs.q hk _) X (ho.keep hX)
  · exact fun X hX => str_k hk _ rfl X (hc.keep hX)
  · exact fun X hX => str_k hko _ (by rw [hs.bds]) X (ho.keep hX)
  · exact fun X hX => alo_k hk X (hc.keep hX)
  · intro X hX
    have := alo_k hko X (ho.keep hX)
    rw [hd] at this
    exact this
end Go.Proofs.YtabnpimidhlbiaaGreat

set_option linter.unusedSimpArgs false
set_option linter.unusedVariables false
namespace Go.Proofs.YtabnpimidhlbiaaGreat
open Go.RowKit Go.Shelf Go.ChangeShapes Go.WideShapes Go.ChangeAt
attribute [local go_sem] Oper.semAt_some
set_option maxRecDepth 100000
theorem kx22 : Tryz.prog.cellsOf 22 = 1 := by kernel_rfl
theorem kx23 : Tryz.prog.cellsOf 23 = 1 := by kernel_rfl
theorem kx25 : Tryz.prog.cellsOf 25 = 5 := by kernel_rfl
theorem kx54 : Tryz.prog.cellsOf 54 = 8 := by kernel_rfl
theorem kx56 : Tryz.prog.cellsOf 56 = 4 := by kernel_rfl
theorem kx64 : Tryz.prog.cellsOf 64 = 3 := by kernel_rfl
section
variable {H : Type} {enc : TypeId × Value → H} {w : World} {fuel : Nat}
theorem ints_ofCN {cs : List Value} {x : DataW H × List MemPlace} (h : DataW.trod enc Tryz.prog w 0 (fun _ => true) true fuel 26 cs = some x) :
    ∃ (a : Option Addr) (cap : Nat) (l : List Int), cs = [.slice a l.length cap] ∧ (IntsAt w a l ∧ (a = none → cap = 0)) ∧ l.length ≤ cap := by
  rcases open_ints Tryz.underlying26 Tryz.underlying3 k3 h with ⟨rfl, _⟩ | ⟨a, len, cap, zs, rfl, hlc, hl, hm, hz, _, hcell, _⟩
  · exact ⟨none, 0, [], rfl, ⟨.inl rfl, fun _ => rfl⟩, by simp⟩
  · simp at hz
    have hlen : (zs.take len).length = len := by simp; omega
    refine ⟨some a, cap, zs.take len, by rw [hlen], ⟨?_, fun h => by cases h⟩, by omega⟩
    rcases Nat.eq_zero_or_pos len with h0 | h0
    · left; simp [h0]
    · right
      have c0 := hcell 0 (by omega)
      obtain ⟨b, off, spot⟩ := a
      have hspot : spot = none := by simpa [Addr.add] using World.cell?_spot c0
      subst hspot
      refine ⟨b, off, rfl, lt_of_cell (by simpa [Addr.add] using c0), fun k hk => ?_⟩
      have ck := hcell k (by omega)
      have hk2 : k < len := by omega
      have hk3 : k < zs.length := by omega
      rw [add_none] at ck
      simp [hk3] at ck
      simp [hk2, hk3, ck]
theorem act1_of {cs : List Value} {x : DataW H × List MemPlace} (h : DataW.trod enc Tryz.prog w 0 (fun _ => true) true fuel 54 cs = some x) :
    ∃ y : Ac, cs = y.v.toList := by
  obtain ⟨xs, n, _, rfl, hl, hlen, hf⟩ := DataW.trod_struct Tryz.underlying54 h
  rw [kx54] at hl
  match cs, hl, xs, hlen with
  | [c0, c1, c2, c3, c4, c5, c6, c7], _, [y0, y1, y2, y3, y4, y5, y6, y7], _ =>
    have h0 := hf 0 _ rfl
    have h1 := hf 1 _ rfl
    have h2 := hf 2 _ rfl
    have h3 := hf 3 _ rfl
    have h4 := hf 4 _ rfl
    have h5 := hf 5 _ rfl
    have h6 := hf 6 _ rfl
    have h7 := hf 7 _ rfl
    simp [k3] at h0 h1 h2 h3 h4 h5 h6 h7
    obtain ⟨a0, e0, _, _⟩ := DataW.trod_int Tryz.underlying3 h0
    obtain ⟨a1, e1, _, _⟩ := DataW.trod_int Tryz.underlying3 h1
    obtain ⟨a2, e2, _, _⟩ := DataW.trod_int Tryz.underlying3 h2
    obtain ⟨a3, e3, _, _⟩ := DataW.trod_int Tryz.underlying3 h3
    obtain ⟨a4, e4, _, _⟩ := DataW.trod_int Tryz.underlying3 h4
    obtain ⟨a5, e5, _, _⟩ := DataW.trod_int Tryz.underlying3 h5
    obtain ⟨a6, e6, _, _⟩ := DataW.trod_int Tryz.underlying3 h6
    obtain ⟨a7, e7, _, _⟩ := DataW.trod_int Tryz.underlying3 h7
    simp at e0 e1 e2 e3 e4 e5 e6 e7
    subst e0 e1 e2 e3 e4 e5 e6 e7
    exact ⟨⟨a0, a1, a2, a3, a4, a5, a6, a7⟩, rfl⟩
theorem duty1_of {cs : List Value} {x : DataW H × List MemPlace} (h : DataW.trod enc Tryz.prog w 0 (fun _ => true) true fuel 56 cs = some x) :
    ∃ y : Du, cs = y.v.toList := by
  obtain ⟨xs, n, _, rfl, hl, hlen, hf⟩ := DataW.trod_struct Tryz.underlying56 h
  rw [kx56] at hl
  match cs, hl, xs, hlen with
  | [c0, c1, c2, c3], _, [y0, y1, y2, y3], _ =>
    have h0 := hf 0 _ rfl
    have h1 := hf 1 _ rfl
    have h2 := hf 2 _ rfl
    have h3 := hf 3 _ rfl
    simp [k3] at h0 h1 h2 h3
    obtain ⟨a0, e0, _, _⟩ := DataW.trod_int Tryz.underlying3 h0
    obtain ⟨a1, e1, _, _⟩ := DataW.trod_int Tryz.underlying3 h1
    obtain ⟨a2, e2, _, _⟩ := DataW.trod_int Tryz.underlying3 h2
    obtain ⟨a3, e3, _, _⟩ := DataW.trod_int Tryz.underlying3 h3
    simp at e0 e1 e2 e3
    subst e0 e1 e2 e3
    exact ⟨⟨a0, a1, a2, a3⟩, rfl⟩
end
section
variable {H : Type} {enc : TypeId × Value → H} {w : World} {fuel : Nat}
theorem acts1_of {cs : List Value} {x : DataW H × List MemPlace} (h : DataW.trod enc Tryz.prog w 0 (fun _ => true) true fuel 22 cs = some x) :
    ∃ (a : Option Addr) (cap : Nat) (l : List Ac), cs = [.slice a l.length cap] ∧ RowE Ac.v 8 w a l ∧ (a = none → cap = 0) := by
  rcases Deep.open_slice Tryz.underlying22 h with ⟨rfl, _⟩ | ⟨a, len, cap, m, n, D, Pl, rfl, hlc, hl, hm, hmm, _, hel⟩
  · exact ⟨none, 0, [], rfl, .inl rfl, fun _ => rfl⟩
  · simp at hmm
    rcases Nat.eq_zero_or_pos len with h0 | h0
    · subst h0
      exact ⟨some a, cap, [], rfl, .inl rfl, fun h => by cases h⟩
    · have hspot : a.spot = none := by
        obtain ⟨cs', h1, h2⟩ := hel 0 (by omega)
        obtain ⟨s, rfl⟩ := act1_of h2
        obtain ⟨_, _, hc⟩ := World.cells?_some h1
        rw [kx54] at hc
        have c0 := hc 0 (by omega)
        simpa [Addr.add] using World.cell?_spot c0
      obtain ⟨b, off, spot⟩ := a
      simp only at hspot
      subst hspot
      have key : ∀ i, ∃ s : Ac, i < len → ∀ r, r < 8 → w.cell? ⟨b, off + i * 8 + r, none⟩ = s.v[r]? := fun i => by
        by_cases hi : i < len
        · obtain ⟨cs', h1, h2⟩ := hel i (by omega)
          obtain ⟨s, rfl⟩ := act1_of h2
          obtain ⟨_, _, hc⟩ := World.cells?_some h1
          rw [kx54] at hc
          simp only [add_none] at hc
          refine ⟨s, fun _ r hr => ?_⟩
          have := hc r hr
          rw [this]
          cases s
          match r, hr with
          | 0, _ => rfl
          | 1, _ => rfl
          | 2, _ => rfl
          | 3, _ => rfl
          | 4, _ => rfl
          | 5, _ => rfl
          | 6, _ => rfl
          | 7, _ => rfl
        · exact ⟨default, fun h => absurd h hi⟩
      obtain ⟨f, hf⟩ := Classical.axiomOfChoice key
      have hlen : ((List.range len).map f).length = len := by simp
      have hget : ∀ k, k < len → ((List.range len).map f).getD k default = f k := fun k hk => by simp [List.getD_eq_getElem?_getD, hk]
      refine ⟨some ⟨b, off, none⟩, cap, (List.range len).map f, by rw [hlen], .inr ⟨b, off, rfl, lt_of_cell (hf 0 h0 0 (by omega)), fun k hk r hr => ?_⟩, fun h => by cases h⟩
      rw [hlen] at hk
      rw [hget k hk]
      exact hf k hk r hr
theorem duties1_of {cs : List Value} {x : DataW H × List MemPlace} (h : DataW.trod enc Tryz.prog w 0 (fun _ => true) true fuel 23 cs = some x) :
    ∃ (a : Option Addr) (cap : Nat) (l : List Du), cs = [.slice a l.length cap] ∧ RowE Du.v 4 w a l ∧ (a = none → cap = 0) := by
  rcases Deep.open_slice Tryz.underlying23 h with ⟨rfl, _⟩ | ⟨a, len, cap, m, n, D, Pl, rfl, hlc, hl, hm, hmm, _, hel⟩
  · exact ⟨none, 0, [], rfl, .inl rfl, fun _ => rfl⟩
  · simp at hmm
    rcases Nat.eq_zero_or_pos len with h0 | h0
    · subst h0
      exact ⟨some a, cap, [], rfl, .inl rfl, fun h => by cases h⟩
    · have hspot : a.spot = none := by
        obtain ⟨cs', h1, h2⟩ := hel 0 (by omega)
        obtain ⟨s, rfl⟩ := duty1_of h2
        obtain ⟨_, _, hc⟩ := World.cells?_some h1
        rw [kx56] at hc
        have c0 := hc 0 (by omega)
        simpa [Addr.add] using World.cell?_spot c0
      obtain ⟨b, off, spot⟩ := a
      simp only at hspot
      subst hspot
      have key : ∀ i, ∃ s : Du, i < len → ∀ r, r < 4 → w.cell? ⟨b, off + i * 4 + r, none⟩ = s.v[r]? := fun i => by
        by_cases hi : i < len
        · obtain ⟨cs', h1, h2⟩ := hel i (by omega)
          obtain ⟨s, rfl⟩ := duty1_of h2
          obtain ⟨_, _, hc⟩ := World.cells?_some h1
          rw [kx56] at hc
          simp only [add_none] at hc
          refine ⟨s, fun _ r hr => ?_⟩
          have := hc r hr
          rw [this]
          cases s
          match r, hr with
          | 0, _ => rfl
          | 1, _ => rfl
          | 2, _ => rfl
          | 3, _ => rfl
        · exact ⟨default, fun h => absurd h hi⟩
      obtain ⟨f, hf⟩ := Classical.axiomOfChoice key
      have hlen : ((List.range len).map f).length = len := by simp
      have hget : ∀ k, k < len → ((List.range len).map f).getD k default = f k := fun k hk => by simp [List.getD_eq_getElem?_getD, hk]
      refine ⟨some ⟨b, off, none⟩, cap, (List.range len).map f, by rw [hlen], .inr ⟨b, off, rfl, lt_of_cell (hf 0 h0 0 (by omega)), fun k hk r hr => ?_⟩, fun h => by cases h⟩
      rw [hlen] at hk
      rw [hget k hk]
      exact hf k hk r hr
end
theorem convoy_of {H : Type} {enc : TypeId × Value → H} {w : World} {v : Value} {d : DataW H} {p : List MemPlace} {r : Reach} {b0 : Nat} (hv : Value.okWide Tryz.prog w r b0 25 v) (h : DataW.Trod enc Tryz.prog w 0 (fun _ => true) true 25 v d p) :
    ∃ c : Cv, v = .agg c.v ∧ c.Laid w ∧ c.Nil := by
  obtain ⟨cs, rfl, hsz⟩ := okWide_struct Tryz.underlying25 hv
  rw [kx25] at hsz
  obtain ⟨l⟩ := cs
  obtain ⟨fuel, hf0⟩ := h
  obtain ⟨xs, n, _, _, hl, hlen, hf⟩ := DataW.trod_struct Tryz.underlying25 hf0
  match l, hsz, xs, hlen with
  | [c0, c1, c2, c3, c4], _, [y0, y1, y2, y3, y4], _ =>
    have h0 := hf 0 _ rfl
    have h1 := hf 1 _ rfl
    have h2 := hf 2 _ rfl
    have h3 := hf 3 _ rfl
    have h4 := hf 4 _ rfl
    simp [k3, kx22, kx23, Value.cells] at h0 h1 h2 h3 h4
    obtain ⟨a0, e0, _, _⟩ := DataW.trod_int Tryz.underlying3 h0
    obtain ⟨a1, e1, _, _⟩ := DataW.trod_int Tryz.underlying3 h1
    obtain ⟨aa, ac, acts, e2, g2, m2⟩ := acts1_of h2
    obtain ⟨da, dc, duties, e3, g3, m3⟩ := duties1_of h3
    obtain ⟨a4, e4, _, _⟩ := DataW.trod_int Tryz.underlying3 h4
    simp at e0 e1 e2 e3 e4
    subst e0 e1 e2 e3 e4
    exact ⟨⟨a0, a1, aa, ac, acts, da, dc, duties, a4⟩, rfl, ⟨g2, g3⟩, m2, m3⟩
theorem ints_val {H : Type} {enc : TypeId × Value → H} {w : World} {v : Value} {d : DataW H} {p : List MemPlace} {r : Reach} {b0 : Nat} (hv : Value.okWide Tryz.prog w r b0 26 v) (h : DataW.Trod enc Tryz.prog w 0 (fun _ => true) true 26 v d p) :
    ∃ (a : Option Addr) (cap : Nat) (l : List Int), v = .slice a l.length cap ∧ IntsAt w a l ∧ (a = none → cap = 0) ∧ l.length ≤ cap := by
  obtain ⟨a, n, c, rfl⟩ := okWide_slice Tryz.underlying26 hv
  obtain ⟨fuel, hf0⟩ := h
  obtain ⟨a', c', l, e, hz, hm⟩ := ints_ofCN hf0
  simp [Value.cells] at e
  obtain ⟨rfl, rfl, rfl⟩ := e
  exact ⟨_, _, l, rfl, hz.1, hz.2, hm⟩
theorem ask64_val {H : Type} {enc : TypeId × Value → H} {w : World} {v : Value} {d : DataW H} {p : List MemPlace} {r : Reach} {b0 : Nat} (hv : Value.okWide Tryz.prog w r b0 64 v) (h : DataW.Trod enc Tryz.prog w 0 (fun _ => true) true 64 v d p) :
    ∃ a b c : Int, v = .agg #[.int .i64 a, .int .i64 b, .int .i64 c] := by
  obtain ⟨cs, rfl, hsz⟩ := okWide_struct Tryz.underlying64 hv
  rw [kx64] at hsz
  obtain ⟨l⟩ := cs
  obtain ⟨fuel, hf0⟩ := h
  obtain ⟨xs, n, _, _, hl, hlen, hf⟩ := DataW.trod_struct Tryz.underlying64 hf0
  match l, hsz, xs, hlen with
  | [c0, c1, c2], _, [y0, y1, y2], _ =>
    have h0 := hf 0 _ rfl
    have h1 := hf 1 _ rfl
    have h2 := hf 2 _ rfl
    simp [k3, Value.cells] at h0 h1 h2
    obtain ⟨a0, e0, _, _⟩ := DataW.trod_int Tryz.underlying3 h0
    obtain ⟨a1, e1, _, _⟩ := DataW.trod_int Tryz.underlying3 h1
    obtain ⟨a2, e2, _, _⟩ := DataW.trod_int Tryz.underlying3 h2
    simp at e0 e1 e2
    subst e0 e1 e2
    exact ⟨a0, a1, a2, rfl⟩
end Go.Proofs.YtabnpimidhlbiaaGreat

set_option linter.unusedSimpArgs false
set_option linter.unusedVariables false
namespace Go.Proofs.YtabnpimidhlbiaaGreat
open Go.RowKit Go.Shelf Go.Sort Go.Maps
attribute [local go_sem] Oper.semAt_some
theorem Cv.At.of {c o : Cv} {W : World} (h : c.At W) (hs : Sim c o) (hr : RowE Ac.v 8 W o.aa o.acts) (hd : RowE Du.v 4 W o.da o.duties) : o.At W :=
  ⟨hr, hd, by have := hs.nn; omega, by rw [hs.du]; exact h.nd, by rw [hs.bks]; exact h.b1, by rw [hs.bds]; exact h.b2⟩
theorem sim_of {c o : Cv} (h1 : o.bks = c.bks) (h2 : o.bds = c.bds) (h3 : o.en = c.en) (h4 : o.duties = c.duties) (L : List Ac) (hp : L.Perm c.acts) (h5 : o.acts = L ∨ ∃ x, x ∈ c.acts ∧ o.acts = L ++ [x]) (hn : c.acts.length ≤ 20) : Sim c o := by
  have hl := hp.length_eq
  refine ⟨h1, h2, h3, h4, fun x => ?_, ?_⟩
  · rcases h5 with h | ⟨y, hy, h⟩
    · rw [h]; exact hp.mem_iff.symm
    · rw [h, List.mem_append, List.mem_singleton, hp.mem_iff]
      exact ⟨.inl, fun h => h.elim id (fun e => e ▸ hy)⟩
  · rcases h5 with h | ⟨y, _, h⟩
    · rw [h]; omega
    · rw [h, List.length_append]; show _ + 1 ≤ _; omega
theorem rowE_one (W : World) (x : Ac) : RowE Ac.v 8 (W.alloc (.cells x.v 54)) (some ⟨W.heap.size, 0, none⟩) [x] := .inr ⟨W.heap.size, 0, rfl, (Blk.new W 54 x.v).lt, fun i hi r hr => by
  have h1 : [x].length = 1 := rfl
  obtain rfl : i = 0 := by omega
  rw [Nat.zero_mul, Nat.zero_add]
  exact (Blk.new W 54 x.v).cell r⟩
set_option maxRecDepth 100000 in
set_option maxHeartbeats 16000000 in
theorem OrderLaw (c : Cv) (bl : List Int) (ba : Option Addr) (bc : Nat) (x0 x1 x2 : Int) (w : World) (h : c.Laid w) (hn : c.Nil) (hb : IntsAt w ba bl) : Calls Tryz.prog 6 #[.agg c.v, .slice ba bl.length bc, .agg #[.int .i64 x0, .int .i64 x1, .int .i64 x2]] w fun e w' => e = .returned (.bool true) ∧ G w w' := by
  have HWK := Lib.hid (fun (W : World) => works_any W)
  have HRD := Lib.hid (fun (W : World) (hW : G w W) => ready_any c W (h.keep hW))
  have HCP := Lib.hid (fun (W : World) (hW : G w W) (hA : c.At W) => Copyc_any c W hA hn)
  have HLA := Lib.hid h
  have HBI := Lib.hid (fun (W : World) (hW : G w W) => hb.below hW)
  have HC23 := Lib.hid (fun (o : Cv) (k : Jn) (hk : folJ o = some k) (bk q : Int) (hq : qErr o (upB bk (o.bks - 1)) = q) (W : World) (h : o.At W) => opn_k hk bk q hq W h)
  have HC24 := Lib.hid (fun (o : Cv) (k : Jn) (hk : folJ o = some k) (mi bk q : Int) (N : Nat) (hN : o.bds.toNat = N) (hq : qErr o (upB mi 9999 && upB bk (o.bks - 1)) = q) (W : World) (h : o.At W) => ins_k hk mi bk q N hN hq W h)
  have HC11 := Lib.hid (fun (o : Cv) (k : Jn) (hk : folJ o = some k) (N : Nat) (hN : o.bds.toNat = N) (W : World) (h : o.At W) => str_k hk N hN W h)
  have HC15 := Lib.hid (fun (o : Cv) (k : Jn) (hk : folJ o = some k) (W : World) (h : o.At W) => alo_k hk W h)
  have HRE := Lib.hid (fun (hr : rdyB c = true) => (show farC c = false ∧ folE c = 0 by
    simp only [rdyB, Bool.and_eq_true, Bool.not_eq_true', decide_eq_true_eq] at hr
    exact hr))
  clear h hn hb
  obtain ⟨ybks, ybds, yaa, yac, yacts, yda, ydc, yduties, yen⟩ := c
  unfold Cv.v at HRD ⊢
  unfold CpcPost Cv.v at HCP
  dsimp only at HRD HCP HRE ⊢
  obtain ⟨W1, hW1⟩ : ∃ W1, W1 = (w.alloc (.cells #[.int .i64 ybks, .int .i64 ybds, .slice yaa yacts.length yac, .slice yda yduties.length ydc, .int .i64 yen] 25)).alloc (.cells #[.int .i64 x0, .int .i64 x1, .int .i64 x2] 64) := ⟨_, rfl⟩
  have g0 : G w W1 := by rw [hW1]; exact ((G.rf _).a _).a _
  have b0 : Blk W1 w.heap.size 25 #[.int .i64 ybks, .int .i64 ybds, .slice yaa yacts.length yac, .slice yda yduties.length ydc, .int .i64 yen] := by rw [hW1]; exact (Blk.new _ _ _).alloc _
  have b1 : Blk W1 (w.heap.size + 1) 64 #[.int .i64 x0, .int .i64 x1, .int .i64 x2] := by rw [hW1]; exact Blk.new1 _ _ _ _
  go_enter Tryz.func6, Tryz.ntmps6
  go_upto_region 1 with fail
  change Code.wp _ _ _ _ ((w.alloc (.cells #[.int .i64 ybks, .int .i64 ybds, .slice yaa yacts.length yac, .slice yda yduties.length ydc, .int .i64 yen] 25)).alloc (.cells #[.int .i64 x0, .int .i64 x1, .int .i64 x2] 64))
  rw [← hW1]
  clear hW1
  have m0 := b0.cell 0
  have m1 := b0.cell 1
  have m2 := b0.cell 2
  have m3 := b0.cell 3
  have m4 := b0.cell 4
  have l0 := b0.lt
  cases hVB : rdyB ⟨ybks, ybds, yaa, yac, yacts, yda, ydc, yduties, yen⟩
  · rw [hVB] at HRD
    clear HRE HCP HC23 HC24 HC11 HC15
    go_wp2_with (first | (go_at_call 18; refine (HRD.out _ g0).mono ?_; rintro e w2 ⟨rfl, hG2⟩) | (go_at_call 9; refine (HWK.out _).mono ?_; rintro e w3 ⟨rfl, hG3⟩))
    have gz := (g0.t hG2).t hG3
    first | exact ⟨rfl, gz⟩ | (go_ret; exact ⟨rfl, gz⟩)
  rw [hVB] at HRD
  by_cases hn20 : 20 < yacts.length
  · have hn20i : (20 : Int) < (yacts.length : Int) := by omega
    clear HRE HCP HC23 HC24 HC11 HC15
    go_wp2_with (first | (go_at_call 18; refine (HRD.out _ g0).mono ?_; rintro e w2 ⟨rfl, hG2⟩; clear m0 m1 m2 m3 m4 l0; have m0 := (b0.keep hG2).cell 0; have m1 := (b0.keep hG2).cell 1; have m2 := (b0.keep hG2).cell 2; have m3 := (b0.keep hG2).cell 3; have m4 := (b0.keep hG2).cell 4; have l0 := (b0.keep hG2).lt) | (go_at_call 9; refine (HWK.out _).mono ?_; rintro e w3 ⟨rfl, hG3⟩))
    have gz := (g0.t hG2).t hG3
    first | exact ⟨rfl, gz⟩ | (go_ret; exact ⟨rfl, gz⟩)
  have hn20i : ¬ (20 : Int) < (yacts.length : Int) := by omega
  by_cases hb40 : 40 < bl.length
  · have hb40i : (40 : Int) < (bl.length : Int) := by omega
    clear HRE HCP HC23 HC24 HC11 HC15
    go_wp2_with (first | (go_at_call 18; refine (HRD.out _ g0).mono ?_; rintro e w2 ⟨rfl, hG2⟩; clear m0 m1 m2 m3 m4 l0; have m0 := (b0.keep hG2).cell 0; have m1 := (b0.keep hG2).cell 1; have m2 := (b0.keep hG2).cell 2; have m3 := (b0.keep hG2).cell 3; have m4 := (b0.keep hG2).cell 4; have l0 := (b0.keep hG2).lt) | (go_at_call 9; refine (HWK.out _).mono ?_; rintro e w3 ⟨rfl, hG3⟩))
    have gz := (g0.t hG2).t hG3
    first | exact ⟨rfl, gz⟩ | (go_ret; exact ⟨rfl, gz⟩)
  have hb40i : ¬ (40 : Int) < (bl.length : Int) := by omega
  obtain ⟨hfar, hfe⟩ := HRE.out hVB
  obtain ⟨hvc, k, hk⟩ := folE_zero hfe
  obtain ⟨_, hq1, hq2, hq3, hq4, _, _, _⟩ := vcB_act hvc
  have hatw := HLA.out.at hfar ⟨hq1, hq2, hq3, hq4⟩
  have HAT := Lib.hid hatw
  have HCP2 := Lib.hid (fun (W : World) (hW : G w W) => HCP.out W hW (hatw.keep hW))
  dsimp only at hq1 hq2 hq3 hq4
  have HQ := Lib.hid (And.intro hq1 (And.intro hq2 (And.intro hq3 hq4)))
  have HFO := Lib.hid hk
  clear hVB hfar hfe hvc hatw HCP HRE HLA hk hq1 hq2 hq3 hq4
  go_upto_region 4 with (first | (go_at_call 18; refine (HRD.out _ g0).mono ?_; rintro e w2 ⟨rfl, hG2⟩; clear m0 m1 m2 m3 m4 l0; have m0 := (b0.keep hG2).cell 0; have m1 := (b0.keep hG2).cell 1; have m2 := (b0.keep hG2).cell 2; have m3 := (b0.keep hG2).cell 3; have m4 := (b0.keep hG2).cell 4; have l0 := (b0.keep hG2).lt; have b02 := b0.keep hG2; have b12 := b1.keep hG2; have g2 := g0.t hG2) | (go_at_call 10; refine (HCP2.out _ g2).mono ?_; rintro e w3 ⟨hG3, oa, oc, oda, odc, rfl, hOA, hOD⟩))
  have hBz : w.heap.size + 1 < w2.heap.size := b12.lt
  have g3 := g2.t hG3
  have ga3 : G w3 (w3.alloc (.cells #[.int .i64 ybks, .int .i64 ybds, .slice oa yacts.length oc, .slice oda yduties.length odc, .int .i64 yen] 25)) := (G.rf _).a _
  have b03 := (b02.keep hG3).keep ga3
  have b13 := (b12.keep hG3).keep ga3
  have bK : Blk (w3.alloc (.cells #[.int .i64 ybks, .int .i64 ybds, .slice oa yacts.length oc, .slice oda yduties.length odc, .int .i64 yen] 25)) w3.heap.size 25 #[.int .i64 ybks, .int .i64 ybds, .slice oa yacts.length oc, .slice oda yduties.length odc, .int .i64 yen] := Blk.new _ _ _
  have g4 := g3.t ga3
  have hsz3 : w2.heap.size ≤ w3.heap.size := hG3.size
  have HOA := Lib.hid (own_G hOA ga3)
  have HOD := Lib.hid (own_G hOD ga3)
  have hlk : w3.heap.size < (w3.alloc (.cells #[.int .i64 ybks, .int .i64 ybds, .slice oa yacts.length oc, .slice oda yduties.length odc, .int .i64 yen] 25)).heap.size := bK.lt
  clear hOA hOD hG3 hG2 b02 b12 g2 g3 ga3 HRD HCP2 b0 b1 g0 m0 m1 m2 m3 m4 l0
  obtain ⟨K, hK⟩ : ∃ K, K = w3.heap.size := ⟨_, rfl⟩
  change Code.wp _ _ _ _ (w3.alloc (.cells #[.int .i64 ybks, .int .i64 ybds, .slice oa yacts.length oc, .slice oda yduties.length odc, .int .i64 yen] 25))
  rw [← hK] at bK hsz3 hlk ⊢
  clear hK
  obtain ⟨B, hB⟩ : ∃ B, B = w2.heap.size := ⟨_, rfl⟩
  rw [← hB] at HOA HOD hBz hsz3
  clear hB
  generalize w3.alloc (.cells #[.int .i64 ybks, .int .i64 ybds, .slice oa yacts.length oc, .slice oda yduties.length odc, .int .i64 yen] 25) = W4 at *
  have HB0 := Lib.hid b03
  have HB1 := Lib.hid b13
  have HBK := Lib.hid bK
  clear b03 b13 bK
  have hge : ∀ g, oa = some ⟨g, 0, none⟩ → B ≤ g := fun g hg => own_base HOA.out (by rw [hg]; rfl)
  have hKn : ¬ (oa = some ⟨K, 0, none⟩) := fun e => own_blk_ne HOA.out HBK.out (by decide) (by rw [e]; rfl)
  have HGE := Lib.hid hge
  have HKN := Lib.hid hKn
  have hodn := own_own HOA.out HOD.out (by decide)
  have HDN : Hid (∀ g, (Value.slice oda yduties.length odc).ownBlock = some g → ¬ (oa = some ⟨g, 0, none⟩)) := fun g hg e => by
    rcases hodn with h | h
    · rw [e] at h; cases h
    · rw [hg, e] at h; exact h rfl
  clear hge hKn hodn
  have GW := Lib.hid (fun (X : World) (hF : Fr (fun i => oa = some ⟨i, 0, none⟩) W4 X) => ((G.fr (R := fun _ => False) g4).t2 hF (fun i hi e => by have := HGE.out i e; omega)).toG (fun _ _ h => h))
  have KC := Lib.hid (fun (X : World) (hF : Fr (fun i => oa = some ⟨i, 0, none⟩) W4 X) => hF.blk HBK.out HKN.out)
  have CC := Lib.hid (fun (X : World) (hF : Fr (fun i => oa = some ⟨i, 0, none⟩) W4 X) => hF.blk HB0.out (fun e => by have := HGE.out _ e; omega))
  have XC := Lib.hid (fun (X : World) (hF : Fr (fun i => oa = some ⟨i, 0, none⟩) W4 X) => hF.blk HB1.out (fun e => by have := HGE.out _ e; omega))
  clear HB0 HB1 HBK
  go_wp2_with fail
  go_loopw [8] (fun vi wr => ∃ (i : Nat) (L : List Ac), i ≤ yacts.length ∧ vi = .int .i64 i ∧ Hid (L.Perm yacts) ∧ Hid (wr.ownsRow B 54 8 (.slice oa yacts.length oc) yacts.length (acV L)) ∧ Hid (Fr (fun i => oa = some ⟨i, 0, none⟩) W4 wr)) (fun vi _ => yacts.length - (intOf vi).toNat)
  case atStart => exact ⟨0, yacts, Nat.zero_le _, rfl, List.Perm.refl _, HOA.out, Fr.rf _ _⟩
  case round =>
    obtain ⟨i, L, hi, rfl, HP, HRW, HFR⟩ := hrel
    obtain ⟨wo, rfl⟩ : ∃ wo, wo = wr := ⟨_, rfl⟩
    have boK := KC.out _ HFR.out
    have m2 := boK.cell 2
    have l0 := boK.lt
    clear boK
    by_cases hlt : i < yacts.length
    · have hki : (i : Int) < yacts.length := by omega
      by_cases hlb : i < bl.length
      · have hkb : (i : Int) < bl.length := by omega
        obtain ⟨D, hD⟩ : ∃ D, D = IntKind.i64.wrap ((i : Int) - bl.getD i 0) := ⟨_, rfl⟩
        have HD := Lib.hid hD
        clear hD
        go_wp2_with fail
        go_loopw [9] (fun vk wr => ∃ (k : Nat) (L : List Ac), k ≤ i ∧ vk = .int .i64 k ∧ Hid (L.Perm yacts) ∧ Hid (wr.ownsRow B 54 8 (.slice oa yacts.length oc) yacts.length (acV L)) ∧ Hid (Fr (fun i => oa = some ⟨i, 0, none⟩) W4 wr)) (fun vk _ => (intOf vk).toNat)
        case atStart => exact ⟨i, L, Nat.le_refl _, rfl, HP, HRW, HFR⟩
        case round =>
          clear m2 l0 HP HRW HFR
          obtain ⟨kk, L, hkk, rfl, HP, HRW, HFR⟩ := hrel
          obtain ⟨wi, rfl⟩ : ∃ wi, wi = wr := ⟨_, rfl⟩
          by_cases h0 : 0 < kk
          · have h0i : (0 : Int) < (kk : Int) := by omega
            rcases HBI.out _ (GW.out _ HFR.out) with h9 | ⟨gb, ob, rfl, lgb, hcb⟩
            · exfalso; rw [h9] at hlb; simp at hlb
            have qb := hcb i hlb
            clear hcb
            have HD2 : Hid (D = IntKind.i64.wrap ((i : Int) - bl.getD i 0)) := HD.out
            obtain ⟨y, hy⟩ : ∃ y, y = bl.getD i 0 := ⟨_, rfl⟩
            rw [← hy] at qb
            have HDy : Hid (IntKind.i64.wrap ((i : Int) - y) = D) := by show _ = _; rw [hy]; exact HD.out.symm
            clear hy HD2
            have hDD := HDy.out
            by_cases hgt : D < (kk : Int)
            · clear HD HDy
              have hkn : kk < yacts.length := by omega
              have hkni : (kk : Int) < yacts.length := by omega
              obtain ⟨j, hj⟩ : ∃ j, j = kk - 1 := ⟨_, rfl⟩
              have hjn : j < yacts.length := by omega
              have hjni : (j : Int) < yacts.length := by omega
              have hsub : IntKind.i64.wrap ((kk : Int) - 1) = (j : Int) := by rw [IntWalk.i64_in _ (by omega)]; omega
              have hLl : L.length = yacts.length := HP.out.length_eq
              have HLl := Lib.hid hLl
              have hrw : wi.drew.ownsRow B 54 8 (.slice oa L.length oc) L.length (acV L) := by rw [hLl]; exact own_G HRW.out (G.rf wi).d
              obtain ⟨g, cur, hoa, hgB, hblk, hin, hput⟩ := row_put54 hrw (i := kk) (by omega)
              have HPU := Lib.hid (hput (L.getD j default))
              have boK := KC.out _ HFR.out
              have hcz : ∀ r, r < 8 → wi.drew.cell? ⟨g, kk * 8 + r, none⟩ = (L.getD kk default).v[r]? := fun r hr => by
                obtain ⟨a9, c9, e9, r9⟩ := own_ac hrw
                injection e9 with e9 _ _
                subst e9
                rcases r9 with h9 | ⟨g9, off, e8, _, h8⟩
                · omega
                · rw [hoa] at e8
                  injection e8 with e8
                  injection e8 with e7 e6
                  subst e7
                  have := h8 kk (by omega) r hr
                  rw [← e6, Nat.zero_add] at this
                  exact this
              have hcy : ∀ r, r < 8 → wi.drew.cell? ⟨g, j * 8 + r, none⟩ = (L.getD j default).v[r]? := fun r hr => by
                obtain ⟨a9, c9, e9, r9⟩ := own_ac hrw
                injection e9 with e9 _ _
                subst e9
                rcases r9 with h9 | ⟨g9, off, e8, _, h8⟩
                · omega
                · rw [hoa] at e8
                  injection e8 with e8
                  injection e8 with e7 e6
                  subst e7
                  have := h8 j (by omega) r hr
                  rw [← e6, Nat.zero_add] at this
                  exact this
              have HSW : Hid (swp L kk = (L.set kk (L.getD j default)).set j (L.getD kk default)) := by show swp L kk = _; unfold swp; rw [← hj]
              have HPERM := Lib.hid ((swp_perm L h0 (by omega)).trans HP.out)
              clear hrw hput
              obtain ⟨y', hy'⟩ : ∃ y, y = L.getD j default := ⟨_, rfl⟩
              obtain ⟨z', hz'⟩ : ∃ z, z = L.getD kk default := ⟨_, rfl⟩
              rw [← hy'] at hcy HSW HPU
              rw [← hz'] at hcz HSW
              clear hy' hz'
              obtain ⟨W5, hW5⟩ : ∃ W5, W5 = wi.drew.setCells g (kk * 8) (acE y') := ⟨_, rfl⟩
              have hp5 := HPU.out
              rw [← hW5] at hp5
              have hl5 : (L.set kk y').length = L.length := List.length_set
              rw [← hl5] at hp5
              obtain ⟨g2, cur2, hoa2, _, hblk2, hin2, hput2⟩ := row_put54 hp5 (i := j) (by rw [hl5]; omega)
              rw [hl5] at hput2
              have hgg : g2 = g := by
                have e := hoa2.symm.trans hoa
                injection e with e
                injection e with e
              rw [hgg] at hblk2 hput2 hoa2
              clear hgg hp5 hl5
              rw [hW5] at hblk2 hput2
              clear hW5
              have HPU2 := Lib.hid (hput2 z')
              have HBL := Lib.hid hblk
              have HBL2 := Lib.hid hblk2
              have HOE := Lib.hid hoa
              obtain ⟨yid, ytm, ykd, ybk, ybd, ym1, ym2, ysl⟩ := y'
              obtain ⟨zid, ztm, zkd, zbk, zbd, zm1, zm2, zsl⟩ := z'
              unfold Ac.v at hcy hcz
              have HSK : Hid ((wi.drew.cell? ⟨K, 2, none⟩ = some (.slice (some ⟨g, 0, none⟩) yacts.length oc) ∧ K < wi.drew.heap.size) ∧ (wi.drew.cell? ⟨g, j * 8, none⟩ = some (.int .i64 yid) ∧ wi.drew.cell? ⟨g, j * 8 + 1, none⟩ = some (.int .i64 ytm) ∧ wi.drew.cell? ⟨g, j * 8 + 2, none⟩ = some (.int .i64 ykd) ∧ wi.drew.cell? ⟨g, j * 8 + 3, none⟩ = some (.int .i64 ybk) ∧ wi.drew.cell? ⟨g, j * 8 + 4, none⟩ = some (.int .i64 ybd) ∧ wi.drew.cell? ⟨g, j * 8 + 5, none⟩ = some (.int .i64 ym1) ∧ wi.drew.cell? ⟨g, j * 8 + 6, none⟩ = some (.int .i64 ym2) ∧ wi.drew.cell? ⟨g, j * 8 + 7, none⟩ = some (.int .i64 ysl)) ∧ (wi.drew.cell? ⟨g, kk * 8, none⟩ = some (.int .i64 zid) ∧ wi.drew.cell? ⟨g, kk * 8 + 1, none⟩ = some (.int .i64 ztm) ∧ wi.drew.cell? ⟨g, kk * 8 + 2, none⟩ = some (.int .i64 zkd) ∧ wi.drew.cell? ⟨g, kk * 8 + 3, none⟩ = some (.int .i64 zbk) ∧ wi.drew.cell? ⟨g, kk * 8 + 4, none⟩ = some (.int .i64 zbd) ∧ wi.drew.cell? ⟨g, kk * 8 + 5, none⟩ = some (.int .i64 zm1) ∧ wi.drew.cell? ⟨g, kk * 8 + 6, none⟩ = some (.int .i64 zm2) ∧ wi.drew.cell? ⟨g, kk * 8 + 7, none⟩ = some (.int .i64 zsl)) ∧ g < wi.drew.heap.size) := by
                refine ⟨⟨?_, (boK.keep (G.rf wi).d).lt⟩, ⟨hcy 0 (by omega), hcy 1 (by omega), hcy 2 (by omega), hcy 3 (by omega), hcy 4 (by omega), hcy 5 (by omega), hcy 6 (by omega), hcy 7 (by omega)⟩, ⟨hcz 0 (by omega), hcz 1 (by omega), hcz 2 (by omega), hcz 3 (by omega), hcz 4 (by omega), hcz 5 (by omega), hcz 6 (by omega), hcz 7 (by omega)⟩, hblk.lt⟩
                have := (boK.keep (G.rf wi).d).cell 2
                rw [hoa] at this
                exact this
              have hmK := (boK.cell 2)
              rw [hoa] at hmK
              have lmK := boK.lt
              have HJ := Lib.hid hj
              clear hcy hcz hput2 hoa2 boK hblk hblk2 hoa HPU hLl hj
              go_upto_region 10 with fail
              refine wp_region_Y (S := fun W' => W'.cell? ⟨K, 2, none⟩ = some (.slice (some ⟨g, 0, none⟩) yacts.length oc) ∧ K < W'.heap.size) 21 22 rfl (by kernel_rfl) HSK.out.1 (fun hS => ?_)
              obtain ⟨-, ⟨u0, u1, u2, u3, u4, u5, u6, u7⟩, ⟨v0, v1, v2, v3, v4, v5, v6, v7⟩, s2⟩ := HSK.out
              clear HSK
              have HFD := Lib.hid HFR.out.d
              generalize wi.drew = WD at *
              refine wpAnyY_take (i := 0) (v := ?_) rfl (by kernel_rfl) (by kernel_rfl) (by kernel_rfl) (by kernel_rfl) (fun _ _ _ h => h) (Or.inl ⟨by kernel_rfl, ?_⟩) hS ?_
              rotate_left
              · intro w' hSw; obtain ⟨s0, s1⟩ := hSw; go_simp; with_reducible rfl
              try simp only [Act.put, zzA, zzB, zzC, zzD, zzE, zzF]
              refine wpAnyY_take (i := 1) (v := ?_) rfl (by kernel_rfl) (by kernel_rfl) (by kernel_rfl) (by kernel_rfl) (fun _ _ _ h => h) (Or.inl ⟨by kernel_rfl, ?_⟩) hS ?_
              rotate_left
              · intro w' hSw; obtain ⟨s0, s1⟩ := hSw; go_simp; with_reducible rfl
              try simp only [Act.put, zzA, zzB, zzC, zzD, zzE, zzF]
              refine wpAnyY_take (i := 2) (v := ?_) rfl (by kernel_rfl) (by kernel_rfl) (by kernel_rfl) (by kernel_rfl) (fun _ _ _ h => h) (Or.inl ⟨by kernel_rfl, ?_⟩) hS ?_
              rotate_left
              · intro w' hSw; obtain ⟨s0, s1⟩ := hSw; go_simp; with_reducible rfl
              try simp only [Act.put, zzA, zzB, zzC, zzD, zzE, zzF]
              refine wpAnyY_take (i := 3) (v := ?_) rfl (by kernel_rfl) (by kernel_rfl) (by kernel_rfl) (by kernel_rfl) (fun _ _ _ h => h) (Or.inl ⟨by kernel_rfl, ?_⟩) hS ?_
              rotate_left
              · intro w' hSw; obtain ⟨s0, s1⟩ := hSw; go_simp; with_reducible rfl
              try simp only [Act.put, zzA, zzB, zzC, zzD, zzE, zzF]
              refine wpAnyY_take (i := 4) (v := ?_) rfl (by kernel_rfl) (by kernel_rfl) (by kernel_rfl) (by kernel_rfl) (fun _ _ _ h => h) (Or.inl ⟨by kernel_rfl, ?_⟩) hS ?_
              rotate_left
              · intro w' hSw; obtain ⟨s0, s1⟩ := hSw; go_simp; with_reducible rfl
              try simp only [Act.put, zzA, zzB, zzC, zzD, zzE, zzF]
              refine wpAnyY_take (i := 5) (v := ?_) rfl (by kernel_rfl) (by kernel_rfl) (by kernel_rfl) (by kernel_rfl) (fun _ _ _ h => h) (Or.inl ⟨by kernel_rfl, ?_⟩) hS ?_
              rotate_left
              · intro w' hSw; obtain ⟨s0, s1⟩ := hSw; go_simp; with_reducible rfl
              try simp only [Act.put, zzA, zzB, zzC, zzD, zzE, zzF]
              refine wpAnyY_take (i := 6) (v := ?_) rfl (by kernel_rfl) (by kernel_rfl) (by kernel_rfl) (by kernel_rfl) (fun _ _ _ h => h) (Or.inl ⟨by kernel_rfl, ?_⟩) hS ?_
              rotate_left
              · intro w' hSw; obtain ⟨s0, s1⟩ := hSw; go_simp; with_reducible rfl
              try simp only [Act.put, zzA, zzB, zzC, zzD, zzE, zzF]
              refine wpAnyY_take (i := 7) (v := ?_) rfl (by kernel_rfl) (by kernel_rfl) (by kernel_rfl) (by kernel_rfl) (fun _ _ _ h => h) (Or.inl ⟨by kernel_rfl, ?_⟩) hS ?_
              rotate_left
              · intro w' hSw; obtain ⟨s0, s1⟩ := hSw; go_simp; with_reducible rfl
              try simp only [Act.put, zzA, zzB, zzC, zzD, zzE, zzF]
              refine wpAnyY_take (i := 8) (v := ?_) rfl (by kernel_rfl) (by kernel_rfl) (by kernel_rfl) (by kernel_rfl) (fun _ _ _ h => h) (Or.inl ⟨by kernel_rfl, ?_⟩) hS ?_
              rotate_left
              · intro w' hSw; obtain ⟨s0, s1⟩ := hSw; go_simp; with_reducible rfl
              try simp only [Act.put, zzA, zzB, zzC, zzD, zzE, zzF]
              refine wpAnyY_take (i := 9) (v := ?_) rfl (by kernel_rfl) (by kernel_rfl) (by kernel_rfl) (by kernel_rfl) (fun _ _ _ h => h) (Or.inl ⟨by kernel_rfl, ?_⟩) hS ?_
              rotate_left
              · intro w' hSw; obtain ⟨s0, s1⟩ := hSw; go_simp; with_reducible rfl
              try simp only [Act.put, zzA, zzB, zzC, zzD, zzE, zzF]
              refine wpAnyY_take (i := 10) (v := ?_) rfl (by kernel_rfl) (by kernel_rfl) (by kernel_rfl) (by kernel_rfl) (fun _ _ _ h => h) (Or.inl ⟨by kernel_rfl, ?_⟩) hS ?_
              rotate_left
              · intro w' hSw; obtain ⟨s0, s1⟩ := hSw; go_simp; with_reducible rfl
              try simp only [Act.put, zzA, zzB, zzC, zzD, zzE, zzF]
              refine wpAnyY_take (i := 11) (v := ?_) rfl (by kernel_rfl) (by kernel_rfl) (by kernel_rfl) (by kernel_rfl) (fun _ _ _ h => h) (Or.inl ⟨by kernel_rfl, ?_⟩) hS ?_
              rotate_left
              · intro w' hSw; obtain ⟨s0, s1⟩ := hSw; go_simp; with_reducible rfl
              try simp only [Act.put, zzA, zzB, zzC, zzD, zzE, zzF]
              refine wpAnyY_take (i := 13) (v := ?_) rfl (by kernel_rfl) (by kernel_rfl) (by kernel_rfl) (by kernel_rfl) (fun _ _ _ h => h) (Or.inl ⟨by kernel_rfl, ?_⟩) hS ?_
              rotate_left
              · intro w' hSw; obtain ⟨s0, s1⟩ := hSw; go_simp; with_reducible rfl
              try simp only [Act.put, zzA, zzB, zzC, zzD, zzE, zzF]
              refine wpAnyY_take (i := 14) (v := ?_) rfl (by kernel_rfl) (by kernel_rfl) (by kernel_rfl) (by kernel_rfl) (fun _ _ _ h => h) (Or.inl ⟨by kernel_rfl, ?_⟩) hS ?_
              rotate_left
              · intro w' hSw; obtain ⟨s0, s1⟩ := hSw; go_simp; with_reducible rfl
              try simp only [Act.put, zzA, zzB, zzC, zzD, zzE, zzF]
              refine wpAnyY_take (i := 15) (v := ?_) rfl (by kernel_rfl) (by kernel_rfl) (by kernel_rfl) (by kernel_rfl) (fun _ _ _ h => h) (Or.inl ⟨by kernel_rfl, ?_⟩) hS ?_
              rotate_left
              · intro w' hSw; obtain ⟨s0, s1⟩ := hSw; go_simp; with_reducible rfl
              try simp only [Act.put, zzA, zzB, zzC, zzD, zzE, zzF]
              refine wpAnyY_take (i := 16) (v := ?_) rfl (by kernel_rfl) (by kernel_rfl) (by kernel_rfl) (by kernel_rfl) (fun _ _ _ h => h) (Or.inl ⟨by kernel_rfl, ?_⟩) hS ?_
              rotate_left
              · intro w' hSw; obtain ⟨s0, s1⟩ := hSw; go_simp; with_reducible rfl
              try simp only [Act.put, zzA, zzB, zzC, zzD, zzE, zzF]
              refine wpAnyY_twoSW (i := 12) (j := 17) (by kernel_rfl) rfl rfl (by kernel_rfl) (by kernel_rfl) (fun K12 hK12 => ?_) (fun K17 hK17 => ?_)
              · go_simp
                refine hK12.out _ _ hS (fun hS => ?_)
                clear hK12
                try simp only [Act.put, zzA, zzB, zzC, zzD, zzE, zzF]
                refine wpAnyY_oneSW (i := 17) (by kernel_rfl) rfl (by kernel_rfl) (fun K17 hK17 => ?_)
                go_simp
                refine hK17.out _ _ hS (fun hS => ?_)
                clear hK17
                try simp only [Act.put, zzA, zzB, zzC, zzD, zzE, zzF]
                refine wpAnyY_take (i := 18) (v := ?_) rfl (by kernel_rfl) (by kernel_rfl) (by kernel_rfl) (by kernel_rfl) (fun _ _ _ h => h) (Or.inl ⟨by kernel_rfl, ?_⟩) hS ?_
                rotate_left
                · intro w' hSw; obtain ⟨s0, s1⟩ := hSw; go_simp; with_reducible rfl
                try simp only [Act.put, zzA, zzB, zzC, zzD, zzE, zzF]
                refine wpAnyY_oneSW (i := 19) (by kernel_rfl) rfl (by kernel_rfl) (fun K19 hK19 => ?_)
                refine wp_storeC g (kk * 8) 54 (.tmp 91) (.tmp 85) (vs := [.int .i64 yid, .int .i64 ytm, .int .i64 ykd, .int .i64 ybk, .int .i64 ybd, .int .i64 ym1, .int .i64 ym2, .int .i64 ysl]) rfl (by first | rfl | (simp [Act.eval]; done)) rfl (fun w => size54 w) HBL.out (by show kk * 8 + 8 ≤ _; exact hin) (by simp [Value.oneCell']) ?_
                obtain ⟨WE, hWE⟩ : ∃ WE, WE = WD.setCells g (kk * 8) [.int .i64 yid, .int .i64 ytm, .int .i64 ykd, .int .i64 ybk, .int .i64 ybd, .int .i64 ym1, .int .i64 ym2, .int .i64 ysl] := ⟨_, rfl⟩
                rw [← hWE]
                have HBLE : Hid (Blk WE g 54 cur2) := by rw [hWE]; exact HBL2.out
                have HPUE : Hid ((WE.setCells g (j * 8) [.int .i64 zid, .int .i64 ztm, .int .i64 zkd, .int .i64 zbk, .int .i64 zbd, .int .i64 zm1, .int .i64 zm2, .int .i64 zsl]).ownsRow B 54 8 (.slice oa L.length oc) L.length (acV (swp L kk))) := by rw [hWE, HSW.out]; exact HPU2.out
                have HFE : Hid (Fr (fun i => oa = some ⟨i, 0, none⟩) W4 WE) := by rw [hWE]; exact Fr_setCells HOE.out _ _ _ HFD.out
                have hSE : WE.cell? ⟨K, 2, none⟩ = some (.slice (some ⟨g, 0, none⟩) yacts.length oc) ∧ K < WE.heap.size := ⟨by
                  have := (KC.out _ HFE.out).cell 2
                  rw [HOE.out] at this
                  exact this, (KC.out _ HFE.out).lt⟩
                refine hK19.out _ _ hSE (fun hS => ?_)
                clear hK19 hWE HBL2 HPU2 HBL u0 u1 u2 u3 u4 u5 u6 u7 v0 v1 v2 v3 v4 v5 v6 v7 s2
                try simp only [Act.put, zzA, zzB, zzC, zzD, zzE, zzF]
                refine wpAnyY_take (i := 20) (v := ?_) rfl (by kernel_rfl) (by kernel_rfl) (by kernel_rfl) (by kernel_rfl) (fun _ _ _ h => h) (Or.inl ⟨by kernel_rfl, ?_⟩) hS ?_
                rotate_left
                · intro w' hSw; obtain ⟨s0, s1⟩ := hSw; go_simp; with_reducible rfl
                try simp only [Act.put, zzA, zzB, zzC, zzD, zzE, zzF]
                refine wpAnyY_oneW (i := 21) (by kernel_rfl) rfl (by kernel_rfl) (by kernel_rfl) (fun K21 hK21 => ?_)
                refine wp_storeC g (j * 8) 54 (.tmp 92) (.tmp 90) (vs := [.int .i64 zid, .int .i64 ztm, .int .i64 zkd, .int .i64 zbk, .int .i64 zbd, .int .i64 zm1, .int .i64 zm2, .int .i64 zsl]) rfl (by first | rfl | (simp [Act.eval]; done)) rfl (fun w => size54 w) HBLE.out (by show j * 8 + 8 ≤ _; exact hin2) (by simp [Value.oneCell']) ?_
                refine hK21.out _ _ ?_
                clear hK21
                try simp only [Act.put, zzA, zzB, zzC, zzD, zzE, zzF]
                obtain ⟨WF, hWF⟩ : ∃ WF, WF = WE.setCells g (j * 8) [.int .i64 zid, .int .i64 ztm, .int .i64 zkd, .int .i64 zbk, .int .i64 zbd, .int .i64 zm1, .int .i64 zm2, .int .i64 zsl] := ⟨_, rfl⟩
                rw [← hWF]
                have HROW : Hid (WF.ownsRow B 54 8 (.slice oa L.length oc) L.length (acV (swp L kk))) := by rw [hWF]; exact HPUE.out
                have HFF : Hid (Fr (fun i => oa = some ⟨i, 0, none⟩) W4 WF) := by rw [hWF]; exact Fr_setCells HOE.out _ _ _ HFE.out
                clear hWF HPUE HFE HBLE hS hSE
                refine wpAnyY_done (by kernel_rfl) ?_ _
                go_wp2_with fail
                go_roundw
                case rel =>
                  refine ⟨j, swp L kk, by have := HJ.out; omega, by first | rfl | (rw [hsub]) | go_num | (simp [hsub]; done), HPERM, ?_, HFF⟩
                  have := HROW.out
                  rw [HLl.out] at this
                  exact this
                case measure => have := HJ.out; simp [intOf] <;> omega
              · go_simp
                refine hK17.out _ _ hS (fun hS => ?_)
                clear hK17
                try simp only [Act.put, zzA, zzB, zzC, zzD, zzE, zzF]
                refine wpAnyY_oneSW (i := 12) (by kernel_rfl) rfl (by kernel_rfl) (fun K12 hK12 => ?_)
                go_simp
                refine hK12.out _ _ hS (fun hS => ?_)
                clear hK12
                try simp only [Act.put, zzA, zzB, zzC, zzD, zzE, zzF]
                refine wpAnyY_take (i := 18) (v := ?_) rfl (by kernel_rfl) (by kernel_rfl) (by kernel_rfl) (by kernel_rfl) (fun _ _ _ h => h) (Or.inl ⟨by kernel_rfl, ?_⟩) hS ?_
                rotate_left
                · intro w' hSw; obtain ⟨s0, s1⟩ := hSw; go_simp; with_reducible rfl
                try simp only [Act.put, zzA, zzB, zzC, zzD, zzE, zzF]
                refine wpAnyY_oneSW (i := 19) (by kernel_rfl) rfl (by kernel_rfl) (fun K19 hK19 => ?_)
                refine wp_storeC g (kk * 8) 54 (.tmp 91) (.tmp 85) (vs := [.int .i64 yid, .int .i64 ytm, .int .i64 ykd, .int .i64 ybk, .int .i64 ybd, .int .i64 ym1, .int .i64 ym2, .int .i64 ysl]) rfl (by first | rfl | (simp [Act.eval]; done)) rfl (fun w => size54 w) HBL.out (by show kk * 8 + 8 ≤ _; exact hin) (by simp [Value.oneCell']) ?_
                obtain ⟨WE, hWE⟩ : ∃ WE, WE = WD.setCells g (kk * 8) [.int .i64 yid, .int .i64 ytm, .int .i64 ykd, .int .i64 ybk, .int .i64 ybd, .int .i64 ym1, .int .i64 ym2, .int .i64 ysl] := ⟨_, rfl⟩
                rw [← hWE]
                have HBLE : Hid (Blk WE g 54 cur2) := by rw [hWE]; exact HBL2.out
                have HPUE : Hid ((WE.setCells g (j * 8) [.int .i64 zid, .int .i64 ztm, .int .i64 zkd, .int .i64 zbk, .int .i64 zbd, .int .i64 zm1, .int .i64 zm2, .int .i64 zsl]).ownsRow B 54 8 (.slice oa L.length oc) L.length (acV (swp L kk))) := by rw [hWE, HSW.out]; exact HPU2.out
                have HFE : Hid (Fr (fun i => oa = some ⟨i, 0, none⟩) W4 WE) := by rw [hWE]; exact Fr_setCells HOE.out _ _ _ HFD.out
                have hSE : WE.cell? ⟨K, 2, none⟩ = some (.slice (some ⟨g, 0, none⟩) yacts.length oc) ∧ K < WE.heap.size := ⟨by
                  have := (KC.out _ HFE.out).cell 2
                  rw [HOE.out] at this
                  exact this, (KC.out _ HFE.out).lt⟩
                refine hK19.out _ _ hSE (fun hS => ?_)
                clear hK19 hWE HBL2 HPU2 HBL u0 u1 u2 u3 u4 u5 u6 u7 v0 v1 v2 v3 v4 v5 v6 v7 s2
                try simp only [Act.put, zzA, zzB, zzC, zzD, zzE, zzF]
                refine wpAnyY_take (i := 20) (v := ?_) rfl (by kernel_rfl) (by kernel_rfl) (by kernel_rfl) (by kernel_rfl) (fun _ _ _ h => h) (Or.inl ⟨by kernel_rfl, ?_⟩) hS ?_
                rotate_left
                · intro w' hSw; obtain ⟨s0, s1⟩ := hSw; go_simp; with_reducible rfl
                try simp only [Act.put, zzA, zzB, zzC, zzD, zzE, zzF]
                refine wpAnyY_oneW (i := 21) (by kernel_rfl) rfl (by kernel_rfl) (by kernel_rfl) (fun K21 hK21 => ?_)
                refine wp_storeC g (j * 8) 54 (.tmp 92) (.tmp 90) (vs := [.int .i64 zid, .int .i64 ztm, .int .i64 zkd, .int .i64 zbk, .int .i64 zbd, .int .i64 zm1, .int .i64 zm2, .int .i64 zsl]) rfl (by first | rfl | (simp [Act.eval]; done)) rfl (fun w => size54 w) HBLE.out (by show j * 8 + 8 ≤ _; exact hin2) (by simp [Value.oneCell']) ?_
                refine hK21.out _ _ ?_
                clear hK21
                try simp only [Act.put, zzA, zzB, zzC, zzD, zzE, zzF]
                obtain ⟨WF, hWF⟩ : ∃ WF, WF = WE.setCells g (j * 8) [.int .i64 zid, .int .i64 ztm, .int .i64 zkd, .int .i64 zbk, .int .i64 zbd, .int .i64 zm1, .int .i64 zm2, .int .i64 zsl] := ⟨_, rfl⟩
                rw [← hWF]
                have HROW : Hid (WF.ownsRow B 54 8 (.slice oa L.length oc) L.length (acV (swp L kk))) := by rw [hWF]; exact HPUE.out
                have HFF : Hid (Fr (fun i => oa = some ⟨i, 0, none⟩) W4 WF) := by rw [hWF]; exact Fr_setCells HOE.out _ _ _ HFE.out
                clear hWF HPUE HFE HBLE hS hSE
                refine wpAnyY_done (by kernel_rfl) ?_ _
                go_wp2_with fail
                go_roundw
                case rel =>
                  refine ⟨j, swp L kk, by have := HJ.out; omega, by first | rfl | (rw [hsub]) | go_num | (simp [hsub]; done), HPERM, ?_, HFF⟩
                  have := HROW.out
                  rw [HLl.out] at this
                  exact this
                case measure => have := HJ.out; simp [intOf] <;> omega
            · go_wp2_with fail
              go_roundw
              case rel => exact ⟨i + 1, L, by omega, by go_num, HP, HRW, HFR⟩
              case measure => simp [intOf] <;> omega
          · obtain rfl : kk = 0 := by omega
            go_wp2_with fail
            go_roundw
            case rel => exact ⟨i + 1, L, by omega, by go_num, HP, HRW, HFR⟩
            case measure => simp [intOf] <;> omega
      · have hkb : ¬ (i : Int) < bl.length := by omega
        have hnp : 0 < yacts.length := by omega
        have hnpi : (0 : Int) < (yacts.length : Int) := by omega
        obtain ⟨g, cap, cur, hv, _, _, _⟩ := own_some HRW.out hnp
        have hoa : oa = some ⟨g, 0, none⟩ := by injection hv
        have HOE := Lib.hid hoa
        clear hv hoa
        have hszo : B ≤ wo.heap.size := by have := HFR.out.size; omega
        rcases HAT.out.ra.below (GW.out _ HFR.out) with h9 | ⟨gc, off, hya, lgc, hcc⟩
        · exfalso
          have h9' : yacts.length = 0 := h9
          omega
        have hz := hcc 0 hnp
        have hxm : yacts.getD 0 default ∈ yacts := by
          rw [List.getD_eq_getElem?_getD, List.getElem?_eq_getElem hnp]
          exact List.getElem_mem hnp
        have HXM := Lib.hid hxm
        dsimp only at hya hz
        obtain ⟨x, hx⟩ : ∃ x, x = yacts.getD 0 default := ⟨_, rfl⟩
        have hz' : ∀ r, r < 8 → wo.cell? ⟨gc, off + 0 * 8 + r, none⟩ = x.v[r]? := by rw [hx]; exact hz
        rw [← hx] at HXM
        clear hcc hx hz hxm
        obtain ⟨zid, ztm, zkd, zbk, zbd, zm1, zm2, zsl⟩ := x
        unfold Ac.v at hz'
        have HYA := Lib.hid hya
        have HSF : Hid (∀ X, Fr (fun i => oa = some ⟨i, 0, none⟩) wo X → X.cell? ⟨K, 2, none⟩ = some (.slice oa yacts.length oc) ∧ K < X.heap.size ∧ X.cell? ⟨w.heap.size, 2, none⟩ = some (.slice (some ⟨gc, off, none⟩) yacts.length yac) ∧ w.heap.size < X.heap.size ∧ X.cell? ⟨gc, off, none⟩ = some (.int .i64 zid) ∧ X.cell? ⟨gc, off + 1, none⟩ = some (.int .i64 ztm) ∧ X.cell? ⟨gc, off + 2, none⟩ = some (.int .i64 zkd) ∧ X.cell? ⟨gc, off + 3, none⟩ = some (.int .i64 zbk) ∧ X.cell? ⟨gc, off + 4, none⟩ = some (.int .i64 zbd) ∧ X.cell? ⟨gc, off + 5, none⟩ = some (.int .i64 zm1) ∧ X.cell? ⟨gc, off + 6, none⟩ = some (.int .i64 zm2) ∧ X.cell? ⟨gc, off + 7, none⟩ = some (.int .i64 zsl) ∧ gc < X.heap.size) := fun X hX => by
          have hF := HFR.out.t hX
          have bK := KC.out X hF
          have bC := CC.out X hF
          have hgc : ¬ (oa = some ⟨gc, 0, none⟩) := fun e => by
            have h1 := HGE.out gc e
            have h2 : gc < w.heap.size := by
              rcases HAT.out.ra with h9 | ⟨g8, o8, e8, l8, _⟩
              · exfalso
                have h9' : yacts.length = 0 := h9
                omega
              · have e7 : (some ⟨gc, off, none⟩ : Option Addr) = some ⟨g8, o8, none⟩ := HYA.out.symm.trans e8
                injection e7 with e7
                injection e7 with e7
                omega
            omega
          have hcl : ∀ r v, wo.cell? ⟨gc, off + 0 * 8 + r, none⟩ = some v → X.cell? ⟨gc, off + 0 * 8 + r, none⟩ = some v := fun r v hv => by
            have hb := hX.block gc lgc hgc
            unfold World.cell? at hv ⊢
            rw [hb]
            exact hv
          refine ⟨bK.cell 2, bK.lt, ?_, bC.lt, hcl 0 _ (hz' 0 (by omega)), hcl 1 _ (hz' 1 (by omega)), hcl 2 _ (hz' 2 (by omega)), hcl 3 _ (hz' 3 (by omega)), hcl 4 _ (hz' 4 (by omega)), hcl 5 _ (hz' 5 (by omega)), hcl 6 _ (hz' 6 (by omega)), hcl 7 _ (hz' 7 (by omega)), Nat.lt_of_lt_of_le lgc hX.size⟩
          rw [← HYA.out]
          exact bC.cell 2
        clear hz' hya
        obtain ⟨mc2, lc0⟩ : wo.cell? ⟨w.heap.size, 2, none⟩ = some (.slice (some ⟨gc, off, none⟩) yacts.length yac) ∧ w.heap.size < wo.heap.size := ⟨(HSF.out _ (Fr.rf _ _)).2.2.1, (HSF.out _ (Fr.rf _ _)).2.2.2.1⟩
        go_upto_region 12 with fail
        clear m2 l0 mc2 lc0
        refine wp_region_Y (S := fun X => Fr (fun i => oa = some ⟨i, 0, none⟩) wo X) 9 10 rfl (by kernel_rfl) ((Fr.rf _ wo).d) (fun hS => ?_)
        have HOW := Lib.hid (own_G HRW.out (G.rf wo).d)
        have hbD : B ≤ wo.drew.heap.size := hszo
        generalize wo.drew = WD at *
        refine wpAnyY_take (i := 0) (v := ?_) rfl (by kernel_rfl) (by kernel_rfl) (by kernel_rfl) (by kernel_rfl) (fun _ _ _ h => h) (Or.inl ⟨by kernel_rfl, ?_⟩) hS ?_
        rotate_left
        · intro w' hSw; obtain ⟨k2, kl, c2, cl, z0, z1, z2, z3, z4, z5, z6, z7, zl⟩ := HSF.out _ hSw; go_simp; with_reducible rfl
        try simp only [Act.put, zzA, zzB, zzC, zzD, zzE, zzF]
        refine wpAnyY_take (i := 1) (v := ?_) rfl (by kernel_rfl) (by kernel_rfl) (by kernel_rfl) (by kernel_rfl) (fun _ _ _ h => h) (Or.inl ⟨by kernel_rfl, ?_⟩) hS ?_
        rotate_left
        · intro w' hSw; obtain ⟨k2, kl, c2, cl, z0, z1, z2, z3, z4, z5, z6, z7, zl⟩ := HSF.out _ hSw; go_simp; with_reducible rfl
        try simp only [Act.put, zzA, zzB, zzC, zzD, zzE, zzF]
        refine wpAnyY_take (i := 2) (v := ?_) rfl (by kernel_rfl) (by kernel_rfl) (by kernel_rfl) (by kernel_rfl) (fun _ _ _ h => h) (Or.inl ⟨by kernel_rfl, ?_⟩) hS ?_
        rotate_left
        · intro w' hSw; obtain ⟨k2, kl, c2, cl, z0, z1, z2, z3, z4, z5, z6, z7, zl⟩ := HSF.out _ hSw; go_simp; with_reducible rfl
        try simp only [Act.put, zzA, zzB, zzC, zzD, zzE, zzF]
        refine wpAnyY_take (i := 3) (v := ?_) rfl (by kernel_rfl) (by kernel_rfl) (by kernel_rfl) (by kernel_rfl) (fun _ _ _ h => h) (Or.inl ⟨by kernel_rfl, ?_⟩) hS ?_
        rotate_left
        · intro w' hSw; obtain ⟨k2, kl, c2, cl, z0, z1, z2, z3, z4, z5, z6, z7, zl⟩ := HSF.out _ hSw; go_simp; with_reducible rfl
        try simp only [Act.put, zzA, zzB, zzC, zzD, zzE, zzF]
        refine wpAnyY_take (i := 4) (v := ?_) rfl (by kernel_rfl) (by kernel_rfl) (by kernel_rfl) (by kernel_rfl) (fun _ _ _ h => h) (Or.inl ⟨by kernel_rfl, ?_⟩) hS ?_
        rotate_left
        · intro w' hSw; obtain ⟨k2, kl, c2, cl, z0, z1, z2, z3, z4, z5, z6, z7, zl⟩ := HSF.out _ hSw; go_simp; with_reducible rfl
        try simp only [Act.put, zzA, zzB, zzC, zzD, zzE, zzF]
        refine wpAnyY_take (i := 5) (v := ?_) rfl (by kernel_rfl) (by kernel_rfl) (by kernel_rfl) (by kernel_rfl) (fun _ _ _ h => h) (Or.inl ⟨by kernel_rfl, ?_⟩) hS ?_
        rotate_left
        · intro w' hSw; obtain ⟨k2, kl, c2, cl, z0, z1, z2, z3, z4, z5, z6, z7, zl⟩ := HSF.out _ hSw; go_simp; with_reducible rfl
        try simp only [Act.put, zzA, zzB, zzC, zzD, zzE, zzF]
        refine wpAnyY_oneSW (i := 6) (by kernel_rfl) rfl (by kernel_rfl) (fun K6 hK6 => ?_)
        go_simp
        refine hK6.out _ _ (hS.a _) (fun hS => ?_)
        clear hK6
        try simp only [Act.put, zzA, zzB, zzC, zzD, zzE, zzF]
        have HRX := Lib.hid (rowE_one WD ⟨zid, ztm, zkd, zbk, zbd, zm1, zm2, zsl⟩)
        have HOW6 := Lib.hid (own_G HOW.out ((G.rf WD).a (.cells #[.int .i64 zid, .int .i64 ztm, .int .i64 zkd, .int .i64 zbk, .int .i64 zbd, .int .i64 zm1, .int .i64 zm2, .int .i64 zsl] 54)))
        have hb6 : B ≤ (WD.alloc (.cells #[.int .i64 zid, .int .i64 ztm, .int .i64 zkd, .int .i64 zbk, .int .i64 zbd, .int .i64 zm1, .int .i64 zm2, .int .i64 zsl] 54)).heap.size := by rw [World.size_alloc]; omega
        refine wpAnyY_oneSW (i := 7) (by kernel_rfl) rfl (by kernel_rfl) (fun K7 hK7 => ?_)
        refine wp_app54 _ _ rfl B yacts.length (acV L) (.slice oa yacts.length oc) rfl HOW6.out (some ⟨WD.heap.size, 0, none⟩) [⟨zid, ztm, zkd, zbk, zbd, zm1, zm2, zsl⟩] 1 rfl (fun h => by cases h) HRX.out (by show _ + 1 ≤ _; omega) hb6 ?_
        intro v9 w9 hown9 hg9
        have F9 : Fr (fun i => oa = some ⟨i, 0, none⟩) wo w9 := hS.grown hg9 (fun g' e => .inl (by
          rw [HOE.out] at e ⊢
          injection e with e
          rw [← e]))
        refine hK7.out _ _ F9 (fun hS => ?_)
        clear hK7 HOW HOW6 HRX
        try simp only [Act.put, zzA, zzB, zzC, zzD, zzE, zzF]
        obtain ⟨ka, kc, rfl⟩ := own_slice hown9
        have HN9 := Lib.hid hown9
        clear hown9 hg9 hb6 hbD
        have F49 := HFR.out.t F9
        have bK9 := KC.out _ F49
        have j2 := bK9.cell 2
        have jl := bK9.lt
        have jf := bK9.frozen 2
        refine wpAnyY_take (i := 8) (v := ?_) rfl (by kernel_rfl) (by kernel_rfl) (by kernel_rfl) (by kernel_rfl) (fun _ _ _ h => h) (Or.inl ⟨by kernel_rfl, ?_⟩) hS ?_
        rotate_left
        · intro w' hSw; go_simp; with_reducible rfl
        try simp only [Act.put, zzA, zzB, zzC, zzD, zzE, zzF]
        refine wpAnyY_oneW (i := 9) (by kernel_rfl) rfl (by kernel_rfl) (by kernel_rfl) (fun K9 hK9 => ?_)
        go_simp
        refine hK9.out _ _ ?_
        clear hK9
        try simp only [Act.put, zzA, zzB, zzC, zzD, zzE, zzF]
        refine wpAnyY_done (by kernel_rfl) ?_ _
        clear hS j2 jl jf
        have bK := bK9.set_ 2 (.slice ka (yacts.length + 1) kc)
        simp only [List.setIfInBounds_toArray, List.set_cons_zero, List.set_cons_succ] at bK
        have bC := (CC.out _ F49).far (p := ⟨K, 2, none⟩) (show w.heap.size ≠ K by omega) (.slice ka (yacts.length + 1) kc)
        have bX := (XC.out _ F49).far (p := ⟨K, 2, none⟩) (show w.heap.size + 1 ≠ K by omega) (.slice ka (yacts.length + 1) kc)
        have FK : Fr (fun g => g = K) w9 (w9.setCell ⟨K, 2, none⟩ (.slice ka (yacts.length + 1) kc)) := (Fr.rf (fun g => g = K) w9).s (p := ⟨K, 2, none⟩) (.inl rfl) _
        have gz : G w (w9.setCell ⟨K, 2, none⟩ (.slice ka (yacts.length + 1) kc)) := (GW.out _ F49).s (p := ⟨K, 2, none⟩) (show w.heap.size ≤ K by omega) _
        have hLl : L.length = yacts.length := HP.out.length_eq
        have e1 : (L ++ [(⟨zid, ztm, zkd, zbk, zbd, zm1, zm2, zsl⟩ : Ac)]).length = yacts.length + 1 := by rw [List.length_append, hLl]; rfl
        have hrA : RowE Ac.v 8 (w9.setCell ⟨K, 2, none⟩ (.slice ka (yacts.length + 1) kc)) ka (L ++ [⟨zid, ztm, zkd, zbk, zbd, zm1, zm2, zsl⟩]) := by
          have h1 := own_Fr HN9.out FK (fun g e he => own_blk_ne HN9.out bK9 (by decide) (by rw [e, he]))
          have h2 : World.ownsRow (w9.setCell ⟨K, 2, none⟩ (.slice ka (yacts.length + 1) kc)) B 54 8 (.slice ka (yacts.length + 1) kc) (L ++ [(⟨zid, ztm, zkd, zbk, zbd, zm1, zm2, zsl⟩ : Ac)]).length (acV (L ++ [⟨zid, ztm, zkd, zbk, zbd, zm1, zm2, zsl⟩])) := by
            rw [e1, acV_snoc]
            exact h1
          obtain ⟨a8, c8, e8, r8⟩ := own_ac h2
          injection e8 with e8 _ _
          rw [← e8] at r8
          exact r8
        have hrD : RowE Du.v 4 (w9.setCell ⟨K, 2, none⟩ (.slice ka (yacts.length + 1) kc)) oda yduties := by
          have h0 := own_Fr HOD.out F49 HDN.out
          have h1 := own_Fr h0 FK (fun g e he => own_blk_ne h0 bK9 (by decide) (by rw [e, he]))
          obtain ⟨a8, c8, e8, r8⟩ := own_du h1
          injection e8 with e8 _ _
          rw [← e8] at r8
          exact r8
        have hsim : Sim ⟨ybks, ybds, yaa, yac, yacts, yda, ydc, yduties, yen⟩ ⟨ybks, ybds, ka, kc, L ++ [⟨zid, ztm, zkd, zbk, zbd, zm1, zm2, zsl⟩], oda, odc, yduties, yen⟩ := sim_of rfl rfl rfl rfl L HP.out (.inr ⟨_, HXM.out, rfl⟩) (by show yacts.length ≤ 20; omega)
        clear bK9 FK HN9 F9 F49 HXM HYA HSF HOE hLl HFR HRW HP
        obtain ⟨Wz, hWz⟩ : ∃ W, W = w9.setCell ⟨K, 2, none⟩ (.slice ka (yacts.length + 1) kc) := ⟨_, rfl⟩
        rw [← hWz] at bK bC bX gz hrA hrD
        rw [← hWz]
        clear hWz
        have hoAt : (⟨ybks, ybds, ka, kc, L ++ [⟨zid, ztm, zkd, zbk, zbd, zm1, zm2, zsl⟩], oda, odc, yduties, yen⟩ : Cv).At Wz := Cv.At.of (HAT.out.keep gz) hsim hrA hrD
        obtain ⟨LO, LI, LS, LM, LA, q1, q2, q3, hl1, hl2, hl3, hl4, hl5, h23c, h23o, h24c, h24o, h11c, h11o, h15c, h15o⟩ := ans_k HFO.out hsim (by have := HQ.out; exact this.2.2.1) (by have := HQ.out; exact this.2.2.2) x0 x1 Wz (HAT.out.keep gz) hoAt
        unfold Cv.v at h23c h23o h24c h24o h11c h11o h15c h15o
        dsimp only at h23c h23o h24c h24o h11c h11o h15c h15o
        rw [e1] at h23o h24o h11o h15o
        have H23c := Lib.hid h23c
        have H23o := Lib.hid h23o
        have H24c := Lib.hid h24c
        have H24o := Lib.hid h24o
        have H11c := Lib.hid h11c
        have H11o := Lib.hid h11o
        have H15c := Lib.hid h15c
        have H15o := Lib.hid h15o
        have HO0 := Lib.hid bC
        have HO1 := Lib.hid bX
        have HOK := Lib.hid bK
        clear hoAt hsim hrA hrD e1 h23c h23o h24c h24o h11c h11o h15c h15o bC bX bK HFO HAT HQ HDN HGE HKN GW KC CC XC HOA HOD HC23 HC24 HC11 HC15 HBI
        have h0 : G Wz Wz := G.rf _
        have m0 := (HO0.out.keep h0).cell 0
        have m1 := (HO0.out.keep h0).cell 1
        have m2 := (HO0.out.keep h0).cell 2
        have m3 := (HO0.out.keep h0).cell 3
        have m4 := (HO0.out.keep h0).cell 4
        have lm := (HO0.out.keep h0).lt
        have n0 := (HOK.out.keep h0).cell 0
        have n1 := (HOK.out.keep h0).cell 1
        have n2 := (HOK.out.keep h0).cell 2
        have n3 := (HOK.out.keep h0).cell 3
        have n4 := (HOK.out.keep h0).cell 4
        have ln := (HOK.out.keep h0).lt
        have p0 := (HO1.out.keep h0).cell 0
        have p1 := (HO1.out.keep h0).cell 1
        have lp := (HO1.out.keep h0).lt
        go_upto_region 14 with (go_at_call 23; refine (H23c.out _ h0).mono ?_; rintro e w11 ⟨a1, c1, rfl, hr1, hG1⟩)
        have h1 := h0.t hG1
        clear m0 m1 m2 m3 m4 lm n0 n1 n2 n3 n4 ln p0 p1 lp
        have HR1 := Lib.hid hr1
        clear hr1
        have m0 := (HO0.out.keep h1).cell 0
        have m1 := (HO0.out.keep h1).cell 1
        have m2 := (HO0.out.keep h1).cell 2
        have m3 := (HO0.out.keep h1).cell 3
        have m4 := (HO0.out.keep h1).cell 4
        have lm := (HO0.out.keep h1).lt
        have n0 := (HOK.out.keep h1).cell 0
        have n1 := (HOK.out.keep h1).cell 1
        have n2 := (HOK.out.keep h1).cell 2
        have n3 := (HOK.out.keep h1).cell 3
        have n4 := (HOK.out.keep h1).cell 4
        have ln := (HOK.out.keep h1).lt
        have p0 := (HO1.out.keep h1).cell 0
        have p1 := (HO1.out.keep h1).cell 1
        have lp := (HO1.out.keep h1).lt
        go_upto_region 15 with (go_at_call 23; refine (H23o.out _ h1).mono ?_; rintro e w12 ⟨a2, c2, rfl, hr2, hG2⟩)
        have h2 := h1.t hG2
        clear m0 m1 m2 m3 m4 lm n0 n1 n2 n3 n4 ln p0 p1 lp
        have HR2 := Lib.hid hr2
        clear hr2
        have m0 := (HO0.out.keep h2).cell 0
        have m1 := (HO0.out.keep h2).cell 1
        have m2 := (HO0.out.keep h2).cell 2
        have m3 := (HO0.out.keep h2).cell 3
        have m4 := (HO0.out.keep h2).cell 4
        have lm := (HO0.out.keep h2).lt
        have n0 := (HOK.out.keep h2).cell 0
        have n1 := (HOK.out.keep h2).cell 1
        have n2 := (HOK.out.keep h2).cell 2
        have n3 := (HOK.out.keep h2).cell 3
        have n4 := (HOK.out.keep h2).cell 4
        have ln := (HOK.out.keep h2).lt
        have p0 := (HO1.out.keep h2).cell 0
        have p1 := (HO1.out.keep h2).cell 1
        have lp := (HO1.out.keep h2).lt
        go_upto_region 16 with (go_at_call 24; refine (H24c.out _ h2).mono ?_; rintro e w13 ⟨a3, c3, rfl, hr3, hG3⟩)
        have h3 := h2.t hG3
        clear m0 m1 m2 m3 m4 lm n0 n1 n2 n3 n4 ln p0 p1 lp
        have HR3 := Lib.hid hr3
        clear hr3
        have m0 := (HO0.out.keep h3).cell 0
        have m1 := (HO0.out.keep h3).cell 1
        have m2 := (HO0.out.keep h3).cell 2
        have m3 := (HO0.out.keep h3).cell 3
        have m4 := (HO0.out.keep h3).cell 4
        have lm := (HO0.out.keep h3).lt
        have n0 := (HOK.out.keep h3).cell 0
        have n1 := (HOK.out.keep h3).cell 1
        have n2 := (HOK.out.keep h3).cell 2
        have n3 := (HOK.out.keep h3).cell 3
        have n4 := (HOK.out.keep h3).cell 4
        have ln := (HOK.out.keep h3).lt
        have p0 := (HO1.out.keep h3).cell 0
        have p1 := (HO1.out.keep h3).cell 1
        have lp := (HO1.out.keep h3).lt
        go_upto_region 17 with (go_at_call 24; refine (H24o.out _ h3).mono ?_; rintro e w14 ⟨a4, c4, rfl, hr4, hG4⟩)
        have h4 := h3.t hG4
        clear m0 m1 m2 m3 m4 lm n0 n1 n2 n3 n4 ln p0 p1 lp
        have HR4 := Lib.hid hr4
        clear hr4
        have m0 := (HO0.out.keep h4).cell 0
        have m1 := (HO0.out.keep h4).cell 1
        have m2 := (HO0.out.keep h4).cell 2
        have m3 := (HO0.out.keep h4).cell 3
        have m4 := (HO0.out.keep h4).cell 4
        have lm := (HO0.out.keep h4).lt
        have n0 := (HOK.out.keep h4).cell 0
        have n1 := (HOK.out.keep h4).cell 1
        have n2 := (HOK.out.keep h4).cell 2
        have n3 := (HOK.out.keep h4).cell 3
        have n4 := (HOK.out.keep h4).cell 4
        have ln := (HOK.out.keep h4).lt
        have p0 := (HO1.out.keep h4).cell 0
        have p1 := (HO1.out.keep h4).cell 1
        have lp := (HO1.out.keep h4).lt
        go_upto_region 18 with (go_at_call 11; refine (H11c.out _ h4).mono ?_; rintro e w15 ⟨a5, c5, b5, d5, rfl, hr5, hs5, hG5⟩)
        have h5 := h4.t hG5
        clear m0 m1 m2 m3 m4 lm n0 n1 n2 n3 n4 ln p0 p1 lp
        have HR5 := Lib.hid hr5
        clear hr5
        have HT5 := Lib.hid hs5
        clear hs5
        have m0 := (HO0.out.keep h5).cell 0
        have m1 := (HO0.out.keep h5).cell 1
        have m2 := (HO0.out.keep h5).cell 2
        have m3 := (HO0.out.keep h5).cell 3
        have m4 := (HO0.out.keep h5).cell 4
        have lm := (HO0.out.keep h5).lt
        have n0 := (HOK.out.keep h5).cell 0
        have n1 := (HOK.out.keep h5).cell 1
        have n2 := (HOK.out.keep h5).cell 2
        have n3 := (HOK.out.keep h5).cell 3
        have n4 := (HOK.out.keep h5).cell 4
        have ln := (HOK.out.keep h5).lt
        have p0 := (HO1.out.keep h5).cell 0
        have p1 := (HO1.out.keep h5).cell 1
        have lp := (HO1.out.keep h5).lt
        go_upto_region 19 with (go_at_call 11; refine (H11o.out _ h5).mono ?_; rintro e w16 ⟨a6, c6, b6, d6, rfl, hr6, hs6, hG6⟩)
        have h6 := h5.t hG6
        clear m0 m1 m2 m3 m4 lm n0 n1 n2 n3 n4 ln p0 p1 lp
        have HR6 := Lib.hid hr6
        clear hr6
        have HT6 := Lib.hid hs6
        clear hs6
        have m0 := (HO0.out.keep h6).cell 0
        have m1 := (HO0.out.keep h6).cell 1
        have m2 := (HO0.out.keep h6).cell 2
        have m3 := (HO0.out.keep h6).cell 3
        have m4 := (HO0.out.keep h6).cell 4
        have lm := (HO0.out.keep h6).lt
        have n0 := (HOK.out.keep h6).cell 0
        have n1 := (HOK.out.keep h6).cell 1
        have n2 := (HOK.out.keep h6).cell 2
        have n3 := (HOK.out.keep h6).cell 3
        have n4 := (HOK.out.keep h6).cell 4
        have ln := (HOK.out.keep h6).lt
        have p0 := (HO1.out.keep h6).cell 0
        have p1 := (HO1.out.keep h6).cell 1
        have lp := (HO1.out.keep h6).lt
        go_upto_region 20 with (go_at_call 15; refine (H15c.out _ h6).mono ?_; rintro e w17 ⟨a7, c7, rfl, hr7, hG7⟩)
        have h7 := h6.t hG7
        clear m0 m1 m2 m3 m4 lm n0 n1 n2 n3 n4 ln p0 p1 lp
        have HR7 := Lib.hid hr7
        clear hr7
        have m0 := (HO0.out.keep h7).cell 0
        have m1 := (HO0.out.keep h7).cell 1
        have m2 := (HO0.out.keep h7).cell 2
        have m3 := (HO0.out.keep h7).cell 3
        have m4 := (HO0.out.keep h7).cell 4
        have lm := (HO0.out.keep h7).lt
        have n0 := (HOK.out.keep h7).cell 0
        have n1 := (HOK.out.keep h7).cell 1
        have n2 := (HOK.out.keep h7).cell 2
        have n3 := (HOK.out.keep h7).cell 3
        have n4 := (HOK.out.keep h7).cell 4
        have ln := (HOK.out.keep h7).lt
        have p0 := (HO1.out.keep h7).cell 0
        have p1 := (HO1.out.keep h7).cell 1
        have lp := (HO1.out.keep h7).lt
        go_upto_region 21 with (go_at_call 15; refine (H15o.out _ h7).mono ?_; rintro e w18 ⟨a8, c8, rfl, hr8, hG8⟩)
        have h8 := h7.t hG8
        clear m0 m1 m2 m3 m4 lm n0 n1 n2 n3 n4 ln p0 p1 lp
        have HR8 := Lib.hid hr8
        clear hr8
        have HS1 := Lib.hid (sameS_any LO a1 a2 c1 c2 w18 (HR1.out.below ((((((hG2.t hG3).t hG4).t hG5).t hG6).t hG7).t hG8)) (HR2.out.below (((((hG3.t hG4).t hG5).t hG6).t hG7).t hG8)) hl1)
        have HS2 := Lib.hid (fun (W : World) (hW : G w18 W) => sameI_any LI a3 a4 c3 c4 W ((HR3.out.below ((((hG4.t hG5).t hG6).t hG7).t hG8)).below hW) ((HR4.out.below (((hG5.t hG6).t hG7).t hG8)).below hW) hl2)
        have HS3 := Lib.hid (fun (W : World) (hW : G w18 W) => sameI_any LS a5 a6 c5 c6 W ((HR5.out.below ((hG6.t hG7).t hG8)).below hW) ((HR6.out.below (hG7.t hG8)).below hW) hl3)
        have HS4 := Lib.hid (fun (W : World) (hW : G w18 W) => sameI_any LM b5 b6 d5 d6 W ((HT5.out.below ((hG6.t hG7).t hG8)).below hW) ((HT6.out.below (hG7.t hG8)).below hW) hl4)
        have HS5 := Lib.hid (fun (W : World) (hW : G w18 W) => sameI_any LA a7 a8 c7 c8 W ((HR7.out.below hG8).below hW) (HR8.out.below hW) hl5)
        have gE := gz.t h8
        clear HR1 HR2 HR3 HR4 HR5 HR6 HR7 HR8 HT5 HT6 hG1 hG2 hG3 hG4 hG5 hG6 hG7 hG8 h0 h1 h2 h3 h4 h5 h6 h7 h8 hl1 hl2 hl3 hl4 hl5 H23c H23o H24c H24o H11c H11o H15c H15o HO0 HO1 HOK gz
        go_wp2_with (first
          | (go_at_call 28; refine HS1.out.mono ?_; rintro e v1 ⟨rfl, hv1⟩; clear HS1)
          | (go_at_call 17; refine (HS2.out _ hv1).mono ?_; rintro e v2 ⟨rfl, hv2⟩; have g2 := hv1.t hv2; clear HS2)
          | (go_at_call 17; refine (HS3.out _ g2).mono ?_; rintro e v3 ⟨rfl, hv3⟩; have g3 := g2.t hv3; clear HS3)
          | (go_at_call 17; refine (HS4.out _ g3).mono ?_; rintro e v4 ⟨rfl, hv4⟩; have g5 := g3.t hv4; clear HS4)
          | (go_at_call 17; refine (HS5.out _ g5).mono ?_; rintro e v5 ⟨rfl, hv5⟩; have g6 := g5.t hv5; clear HS5)
          | (go_at_call 9; refine (HWK.out _).mono ?_; rintro e v6 ⟨rfl, hv6⟩; have g7 := g6.t hv6; clear HWK))
        have gz := gE.t g7
        first | exact ⟨rfl, gz⟩ | (go_ret; exact ⟨rfl, gz⟩)
    · have hki : ¬ (i : Int) < yacts.length := by omega
      by_cases hnp : 0 < yacts.length
      · have hnpi : (0 : Int) < (yacts.length : Int) := by omega
        obtain ⟨g, cap, cur, hv, _, _, _⟩ := own_some HRW.out hnp
        have hoa : oa = some ⟨g, 0, none⟩ := by injection hv
        have HOE := Lib.hid hoa
        clear hv hoa
        have hszo : B ≤ wo.heap.size := by have := HFR.out.size; omega
        rcases HAT.out.ra.below (GW.out _ HFR.out) with h9 | ⟨gc, off, hya, lgc, hcc⟩
        · exfalso
          have h9' : yacts.length = 0 := h9
          omega
        have hz := hcc 0 hnp
        have hxm : yacts.getD 0 default ∈ yacts := by
          rw [List.getD_eq_getElem?_getD, List.getElem?_eq_getElem hnp]
          exact List.getElem_mem hnp
        have HXM := Lib.hid hxm
        dsimp only at hya hz
        obtain ⟨x, hx⟩ : ∃ x, x = yacts.getD 0 default := ⟨_, rfl⟩
        have hz' : ∀ r, r < 8 → wo.cell? ⟨gc, off + 0 * 8 + r, none⟩ = x.v[r]? := by rw [hx]; exact hz
        rw [← hx] at HXM
        clear hcc hx hz hxm
        obtain ⟨zid, ztm, zkd, zbk, zbd, zm1, zm2, zsl⟩ := x
        unfold Ac.v at hz'
        have HYA := Lib.hid hya
        have HSF : Hid (∀ X, Fr (fun i => oa = some ⟨i, 0, none⟩) wo X → X.cell? ⟨K, 2, none⟩ = some (.slice oa yacts.length oc) ∧ K < X.heap.size ∧ X.cell? ⟨w.heap.size, 2, none⟩ = some (.slice (some ⟨gc, off, none⟩) yacts.length yac) ∧ w.heap.size < X.heap.size ∧ X.cell? ⟨gc, off, none⟩ = some (.int .i64 zid) ∧ X.cell? ⟨gc, off + 1, none⟩ = some (.int .i64 ztm) ∧ X.cell? ⟨gc, off + 2, none⟩ = some (.int .i64 zkd) ∧ X.cell? ⟨gc, off + 3, none⟩ = some (.int .i64 zbk) ∧ X.cell? ⟨gc, off + 4, none⟩ = some (.int .i64 zbd) ∧ X.cell? ⟨gc, off + 5, none⟩ = some (.int .i64 zm1) ∧ X.cell? ⟨gc, off + 6, none⟩ = some (.int .i64 zm2) ∧ X.cell? ⟨gc, off + 7, none⟩ = some (.int .i64 zsl) ∧ gc < X.heap.size) := fun X hX => by
          have hF := HFR.out.t hX
          have bK := KC.out X hF
          have bC := CC.out X hF
          have hgc : ¬ (oa = some ⟨gc, 0, none⟩) := fun e => by
            have h1 := HGE.out gc e
            have h2 : gc < w.heap.size := by
              rcases HAT.out.ra with h9 | ⟨g8, o8, e8, l8, _⟩
              · exfalso
                have h9' : yacts.length = 0 := h9
                omega
              · have e7 : (some ⟨gc, off, none⟩ : Option Addr) = some ⟨g8, o8, none⟩ := HYA.out.symm.trans e8
                injection e7 with e7
                injection e7 with e7
                omega
            omega
          have hcl : ∀ r v, wo.cell? ⟨gc, off + 0 * 8 + r, none⟩ = some v → X.cell? ⟨gc, off + 0 * 8 + r, none⟩ = some v := fun r v hv => by
            have hb := hX.block gc lgc hgc
            unfold World.cell? at hv ⊢
            rw [hb]
            exact hv
          refine ⟨bK.cell 2, bK.lt, ?_, bC.lt, hcl 0 _ (hz' 0 (by omega)), hcl 1 _ (hz' 1 (by omega)), hcl 2 _ (hz' 2 (by omega)), hcl 3 _ (hz' 3 (by omega)), hcl 4 _ (hz' 4 (by omega)), hcl 5 _ (hz' 5 (by omega)), hcl 6 _ (hz' 6 (by omega)), hcl 7 _ (hz' 7 (by omega)), Nat.lt_of_lt_of_le lgc hX.size⟩
          rw [← HYA.out]
          exact bC.cell 2
        clear hz' hya
        obtain ⟨mc2, lc0⟩ : wo.cell? ⟨w.heap.size, 2, none⟩ = some (.slice (some ⟨gc, off, none⟩) yacts.length yac) ∧ w.heap.size < wo.heap.size := ⟨(HSF.out _ (Fr.rf _ _)).2.2.1, (HSF.out _ (Fr.rf _ _)).2.2.2.1⟩
        go_upto_region 12 with fail
        clear m2 l0 mc2 lc0
        refine wp_region_Y (S := fun X => Fr (fun i => oa = some ⟨i, 0, none⟩) wo X) 9 10 rfl (by kernel_rfl) ((Fr.rf _ wo).d) (fun hS => ?_)
        have HOW := Lib.hid (own_G HRW.out (G.rf wo).d)
        have hbD : B ≤ wo.drew.heap.size := hszo
        generalize wo.drew = WD at *
        refine wpAnyY_take (i := 0) (v := ?_) rfl (by kernel_rfl) (by kernel_rfl) (by kernel_rfl) (by kernel_rfl) (fun _ _ _ h => h) (Or.inl ⟨by kernel_rfl, ?_⟩) hS ?_
        rotate_left
        · intro w' hSw; obtain ⟨k2, kl, c2, cl, z0, z1, z2, z3, z4, z5, z6, z7, zl⟩ := HSF.out _ hSw; go_simp; with_reducible rfl
        try simp only [Act.put, zzA, zzB, zzC, zzD, zzE, zzF]
        refine wpAnyY_take (i := 1) (v := ?_) rfl (by kernel_rfl) (by kernel_rfl) (by kernel_rfl) (by kernel_rfl) (fun _ _ _ h => h) (Or.inl ⟨by kernel_rfl, ?_⟩) hS ?_
        rotate_left
        · intro w' hSw; obtain ⟨k2, kl, c2, cl, z0, z1, z2, z3, z4, z5, z6, z7, zl⟩ := HSF.out _ hSw; go_simp; with_reducible rfl
        try simp only [Act.put, zzA, zzB, zzC, zzD, zzE, zzF]
        refine wpAnyY_take (i := 2) (v := ?_) rfl (by kernel_rfl) (by kernel_rfl) (by kernel_rfl) (by kernel_rfl) (fun _ _ _ h => h) (Or.inl ⟨by kernel_rfl, ?_⟩) hS ?_
        rotate_left
        · intro w' hSw; obtain ⟨k2, kl, c2, cl, z0, z1, z2, z3, z4, z5, z6, z7, zl⟩ := HSF.out _ hSw; go_simp; with_reducible rfl
        try simp only [Act.put, zzA, zzB, zzC, zzD, zzE, zzF]
        refine wpAnyY_take (i := 3) (v := ?_) rfl (by kernel_rfl) (by kernel_rfl) (by kernel_rfl) (by kernel_rfl) (fun _ _ _ h => h) (Or.inl ⟨by kernel_rfl, ?_⟩) hS ?_
        rotate_left
        · intro w' hSw; obtain ⟨k2, kl, c2, cl, z0, z1, z2, z3, z4, z5, z6, z7, zl⟩ := HSF.out _ hSw; go_simp; with_reducible rfl
        try simp only [Act.put, zzA, zzB, zzC, zzD, zzE, zzF]
        refine wpAnyY_take (i := 4) (v := ?_) rfl (by kernel_rfl) (by kernel_rfl) (by kernel_rfl) (by kernel_rfl) (fun _ _ _ h => h) (Or.inl ⟨by kernel_rfl, ?_⟩) hS ?_
        rotate_left
        · intro w' hSw; obtain ⟨k2, kl, c2, cl, z0, z1, z2, z3, z4, z5, z6, z7, zl⟩ := HSF.out _ hSw; go_simp; with_reducible rfl
        try simp only [Act.put, zzA, zzB, zzC, zzD, zzE, zzF]
        refine wpAnyY_take (i := 5) (v := ?_) rfl (by kernel_rfl) (by kernel_rfl) (by kernel_rfl) (by kernel_rfl) (fun _ _ _ h => h) (Or.inl ⟨by kernel_rfl, ?_⟩) hS ?_
        rotate_left
        · intro w' hSw; obtain ⟨k2, kl, c2, cl, z0, z1, z2, z3, z4, z5, z6, z7, zl⟩ := HSF.out _ hSw; go_simp; with_reducible rfl
        try simp only [Act.put, zzA, zzB, zzC, zzD, zzE, zzF]
        refine wpAnyY_oneSW (i := 6) (by kernel_rfl) rfl (by kernel_rfl) (fun K6 hK6 => ?_)
        go_simp
        refine hK6.out _ _ (hS.a _) (fun hS => ?_)
        clear hK6
        try simp only [Act.put, zzA, zzB, zzC, zzD, zzE, zzF]
        have HRX := Lib.hid (rowE_one WD ⟨zid, ztm, zkd, zbk, zbd, zm1, zm2, zsl⟩)
        have HOW6 := Lib.hid (own_G HOW.out ((G.rf WD).a (.cells #[.int .i64 zid, .int .i64 ztm, .int .i64 zkd, .int .i64 zbk, .int .i64 zbd, .int .i64 zm1, .int .i64 zm2, .int .i64 zsl] 54)))
        have hb6 : B ≤ (WD.alloc (.cells #[.int .i64 zid, .int .i64 ztm, .int .i64 zkd, .int .i64 zbk, .int .i64 zbd, .int .i64 zm1, .int .i64 zm2, .int .i64 zsl] 54)).heap.size := by rw [World.size_alloc]; omega
        refine wpAnyY_oneSW (i := 7) (by kernel_rfl) rfl (by kernel_rfl) (fun K7 hK7 => ?_)
        refine wp_app54 _ _ rfl B yacts.length (acV L) (.slice oa yacts.length oc) rfl HOW6.out (some ⟨WD.heap.size, 0, none⟩) [⟨zid, ztm, zkd, zbk, zbd, zm1, zm2, zsl⟩] 1 rfl (fun h => by cases h) HRX.out (by show _ + 1 ≤ _; omega) hb6 ?_
        intro v9 w9 hown9 hg9
        have F9 : Fr (fun i => oa = some ⟨i, 0, none⟩) wo w9 := hS.grown hg9 (fun g' e => .inl (by
          rw [HOE.out] at e ⊢
          injection e with e
          rw [← e]))
        refine hK7.out _ _ F9 (fun hS => ?_)
        clear hK7 HOW HOW6 HRX
        try simp only [Act.put, zzA, zzB, zzC, zzD, zzE, zzF]
        obtain ⟨ka, kc, rfl⟩ := own_slice hown9
        have HN9 := Lib.hid hown9
        clear hown9 hg9 hb6 hbD
        have F49 := HFR.out.t F9
        have bK9 := KC.out _ F49
        have j2 := bK9.cell 2
        have jl := bK9.lt
        have jf := bK9.frozen 2
        refine wpAnyY_take (i := 8) (v := ?_) rfl (by kernel_rfl) (by kernel_rfl) (by kernel_rfl) (by kernel_rfl) (fun _ _ _ h => h) (Or.inl ⟨by kernel_rfl, ?_⟩) hS ?_
        rotate_left
        · intro w' hSw; go_simp; with_reducible rfl
        try simp only [Act.put, zzA, zzB, zzC, zzD, zzE, zzF]
        refine wpAnyY_oneW (i := 9) (by kernel_rfl) rfl (by kernel_rfl) (by kernel_rfl) (fun K9 hK9 => ?_)
        go_simp
        refine hK9.out _ _ ?_
        clear hK9
        try simp only [Act.put, zzA, zzB, zzC, zzD, zzE, zzF]
        refine wpAnyY_done (by kernel_rfl) ?_ _
        clear hS j2 jl jf
        have bK := bK9.set_ 2 (.slice ka (yacts.length + 1) kc)
        simp only [List.setIfInBounds_toArray, List.set_cons_zero, List.set_cons_succ] at bK
        have bC := (CC.out _ F49).far (p := ⟨K, 2, none⟩) (show w.heap.size ≠ K by omega) (.slice ka (yacts.length + 1) kc)
        have bX := (XC.out _ F49).far (p := ⟨K, 2, none⟩) (show w.heap.size + 1 ≠ K by omega) (.slice ka (yacts.length + 1) kc)
        have FK : Fr (fun g => g = K) w9 (w9.setCell ⟨K, 2, none⟩ (.slice ka (yacts.length + 1) kc)) := (Fr.rf (fun g => g = K) w9).s (p := ⟨K, 2, none⟩) (.inl rfl) _
        have gz : G w (w9.setCell ⟨K, 2, none⟩ (.slice ka (yacts.length + 1) kc)) := (GW.out _ F49).s (p := ⟨K, 2, none⟩) (show w.heap.size ≤ K by omega) _
        have hLl : L.length = yacts.length := HP.out.length_eq
        have e1 : (L ++ [(⟨zid, ztm, zkd, zbk, zbd, zm1, zm2, zsl⟩ : Ac)]).length = yacts.length + 1 := by rw [List.length_append, hLl]; rfl
        have hrA : RowE Ac.v 8 (w9.setCell ⟨K, 2, none⟩ (.slice ka (yacts.length + 1) kc)) ka (L ++ [⟨zid, ztm, zkd, zbk, zbd, zm1, zm2, zsl⟩]) := by
          have h1 := own_Fr HN9.out FK (fun g e he => own_blk_ne HN9.out bK9 (by decide) (by rw [e, he]))
          have h2 : World.ownsRow (w9.setCell ⟨K, 2, none⟩ (.slice ka (yacts.length + 1) kc)) B 54 8 (.slice ka (yacts.length + 1) kc) (L ++ [(⟨zid, ztm, zkd, zbk, zbd, zm1, zm2, zsl⟩ : Ac)]).length (acV (L ++ [⟨zid, ztm, zkd, zbk, zbd, zm1, zm2, zsl⟩])) := by
            rw [e1, acV_snoc]
            exact h1
          obtain ⟨a8, c8, e8, r8⟩ := own_ac h2
          injection e8 with e8 _ _
          rw [← e8] at r8
          exact r8
        have hrD : RowE Du.v 4 (w9.setCell ⟨K, 2, none⟩ (.slice ka (yacts.length + 1) kc)) oda yduties := by
          have h0 := own_Fr HOD.out F49 HDN.out
          have h1 := own_Fr h0 FK (fun g e he => own_blk_ne h0 bK9 (by decide) (by rw [e, he]))
          obtain ⟨a8, c8, e8, r8⟩ := own_du h1
          injection e8 with e8 _ _
          rw [← e8] at r8
          exact r8
        have hsim : Sim ⟨ybks, ybds, yaa, yac, yacts, yda, ydc, yduties, yen⟩ ⟨ybks, ybds, ka, kc, L ++ [⟨zid, ztm, zkd, zbk, zbd, zm1, zm2, zsl⟩], oda, odc, yduties, yen⟩ := sim_of rfl rfl rfl rfl L HP.out (.inr ⟨_, HXM.out, rfl⟩) (by show yacts.length ≤ 20; omega)
        clear bK9 FK HN9 F9 F49 HXM HYA HSF HOE hLl HFR HRW HP
        obtain ⟨Wz, hWz⟩ : ∃ W, W = w9.setCell ⟨K, 2, none⟩ (.slice ka (yacts.length + 1) kc) := ⟨_, rfl⟩
        rw [← hWz] at bK bC bX gz hrA hrD
        rw [← hWz]
        clear hWz
        have hoAt : (⟨ybks, ybds, ka, kc, L ++ [⟨zid, ztm, zkd, zbk, zbd, zm1, zm2, zsl⟩], oda, odc, yduties, yen⟩ : Cv).At Wz := Cv.At.of (HAT.out.keep gz) hsim hrA hrD
        obtain ⟨LO, LI, LS, LM, LA, q1, q2, q3, hl1, hl2, hl3, hl4, hl5, h23c, h23o, h24c, h24o, h11c, h11o, h15c, h15o⟩ := ans_k HFO.out hsim (by have := HQ.out; exact this.2.2.1) (by have := HQ.out; exact this.2.2.2) x0 x1 Wz (HAT.out.keep gz) hoAt
        unfold Cv.v at h23c h23o h24c h24o h11c h11o h15c h15o
        dsimp only at h23c h23o h24c h24o h11c h11o h15c h15o
        rw [e1] at h23o h24o h11o h15o
        have H23c := Lib.hid h23c
        have H23o := Lib.hid h23o
        have H24c := Lib.hid h24c
        have H24o := Lib.hid h24o
        have H11c := Lib.hid h11c
        have H11o := Lib.hid h11o
        have H15c := Lib.hid h15c
        have H15o := Lib.hid h15o
        have HO0 := Lib.hid bC
        have HO1 := Lib.hid bX
        have HOK := Lib.hid bK
        clear hoAt hsim hrA hrD e1 h23c h23o h24c h24o h11c h11o h15c h15o bC bX bK HFO HAT HQ HDN HGE HKN GW KC CC XC HOA HOD HC23 HC24 HC11 HC15 HBI
        have h0 : G Wz Wz := G.rf _
        have m0 := (HO0.out.keep h0).cell 0
        have m1 := (HO0.out.keep h0).cell 1
        have m2 := (HO0.out.keep h0).cell 2
        have m3 := (HO0.out.keep h0).cell 3
        have m4 := (HO0.out.keep h0).cell 4
        have lm := (HO0.out.keep h0).lt
        have n0 := (HOK.out.keep h0).cell 0
        have n1 := (HOK.out.keep h0).cell 1
        have n2 := (HOK.out.keep h0).cell 2
        have n3 := (HOK.out.keep h0).cell 3
        have n4 := (HOK.out.keep h0).cell 4
        have ln := (HOK.out.keep h0).lt
        have p0 := (HO1.out.keep h0).cell 0
        have p1 := (HO1.out.keep h0).cell 1
        have lp := (HO1.out.keep h0).lt
        go_upto_region 14 with (go_at_call 23; refine (H23c.out _ h0).mono ?_; rintro e w11 ⟨a1, c1, rfl, hr1, hG1⟩)
        have h1 := h0.t hG1
        clear m0 m1 m2 m3 m4 lm n0 n1 n2 n3 n4 ln p0 p1 lp
        have HR1 := Lib.hid hr1
        clear hr1
        have m0 := (HO0.out.keep h1).cell 0
        have m1 := (HO0.out.keep h1).cell 1
        have m2 := (HO0.out.keep h1).cell 2
        have m3 := (HO0.out.keep h1).cell 3
        have m4 := (HO0.out.keep h1).cell 4
        have lm := (HO0.out.keep h1).lt
        have n0 := (HOK.out.keep h1).cell 0
        have n1 := (HOK.out.keep h1).cell 1
        have n2 := (HOK.out.keep h1).cell 2
        have n3 := (HOK.out.keep h1).cell 3
        have n4 := (HOK.out.keep h1).cell 4
        have ln := (HOK.out.keep h1).lt
        have p0 := (HO1.out.keep h1).cell 0
        have p1 := (HO1.out.keep h1).cell 1
        have lp := (HO1.out.keep h1).lt
        go_upto_region 15 with (go_at_call 23; refine (H23o.out _ h1).mono ?_; rintro e w12 ⟨a2, c2, rfl, hr2, hG2⟩)
        have h2 := h1.t hG2
        clear m0 m1 m2 m3 m4 lm n0 n1 n2 n3 n4 ln p0 p1 lp
        have HR2 := Lib.hid hr2
        clear hr2
        have m0 := (HO0.out.keep h2).cell 0
        have m1 := (HO0.out.keep h2).cell 1
        have m2 := (HO0.out.keep h2).cell 2
        have m3 := (HO0.out.keep h2).cell 3
        have m4 := (HO0.out.keep h2).cell 4
        have lm := (HO0.out.keep h2).lt
        have n0 := (HOK.out.keep h2).cell 0
        have n1 := (HOK.out.keep h2).cell 1
        have n2 := (HOK.out.keep h2).cell 2
        have n3 := (HOK.out.keep h2).cell 3
        have n4 := (HOK.out.keep h2).cell 4
        have ln := (HOK.out.keep h2).lt
        have p0 := (HO1.out.keep h2).cell 0
        have p1 := (HO1.out.keep h2).cell 1
        have lp := (HO1.out.keep h2).lt
        go_upto_region 16 with (go_at_call 24; refine (H24c.out _ h2).mono ?_; rintro e w13 ⟨a3, c3, rfl, hr3, hG3⟩)
        have h3 := h2.t hG3
        clear m0 m1 m2 m3 m4 lm n0 n1 n2 n3 n4 ln p0 p1 lp
        have HR3 := Lib.hid hr3
        clear hr3
        have m0 := (HO0.out.keep h3).cell 0
        have m1 := (HO0.out.keep h3).cell 1
        have m2 := (HO0.out.keep h3).cell 2
        have m3 := (HO0.out.keep h3).cell 3
        have m4 := (HO0.out.keep h3).cell 4
        have lm := (HO0.out.keep h3).lt
        have n0 := (HOK.out.keep h3).cell 0
        have n1 := (HOK.out.keep h3).cell 1
        have n2 := (HOK.out.keep h3).cell 2
        have n3 := (HOK.out.keep h3).cell 3
        have n4 := (HOK.out.keep h3).cell 4
        have ln := (HOK.out.keep h3).lt
        have p0 := (HO1.out.keep h3).cell 0
        have p1 := (HO1.out.keep h3).cell 1
        have lp := (HO1.out.keep h3).lt
        go_upto_region 17 with (go_at_call 24; refine (H24o.out _ h3).mono ?_; rintro e w14 ⟨a4, c4, rfl, hr4, hG4⟩)
        have h4 := h3.t hG4
        clear m0 m1 m2 m3 m4 lm n0 n1 n2 n3 n4 ln p0 p1 lp
        have HR4 := Lib.hid hr4
        clear hr4
        have m0 := (HO0.out.keep h4).cell 0
        have m1 := (HO0.out.keep h4).cell 1
        have m2 := (HO0.out.keep h4).cell 2
        have m3 := (HO0.out.keep h4).cell 3
        have m4 := (HO0.out.keep h4).cell 4
        have lm := (HO0.out.keep h4).lt
        have n0 := (HOK.out.keep h4).cell 0
        have n1 := (HOK.out.keep h4).cell 1
        have n2 := (HOK.out.keep h4).cell 2
        have n3 := (HOK.out.keep h4).cell 3
        have n4 := (HOK.out.keep h4).cell 4
        have ln := (HOK.out.keep h4).lt
        have p0 := (HO1.out.keep h4).cell 0
        have p1 := (HO1.out.keep h4).cell 1
        have lp := (HO1.out.keep h4).lt
        go_upto_region 18 with (go_at_call 11; refine (H11c.out _ h4).mono ?_; rintro e w15 ⟨a5, c5, b5, d5, rfl, hr5, hs5, hG5⟩)
        have h5 := h4.t hG5
        clear m0 m1 m2 m3 m4 lm n0 n1 n2 n3 n4 ln p0 p1 lp
        have HR5 := Lib.hid hr5
        clear hr5
        have HT5 := Lib.hid hs5
        clear hs5
        have m0 := (HO0.out.keep h5).cell 0
        have m1 := (HO0.out.keep h5).cell 1
        have m2 := (HO0.out.keep h5).cell 2
        have m3 := (HO0.out.keep h5).cell 3
        have m4 := (HO0.out.keep h5).cell 4
        have lm := (HO0.out.keep h5).lt
        have n0 := (HOK.out.keep h5).cell 0
        have n1 := (HOK.out.keep h5).cell 1
        have n2 := (HOK.out.keep h5).cell 2
        have n3 := (HOK.out.keep h5).cell 3
        have n4 := (HOK.out.keep h5).cell 4
        have ln := (HOK.out.keep h5).lt
        have p0 := (HO1.out.keep h5).cell 0
        have p1 := (HO1.out.keep h5).cell 1
        have lp := (HO1.out.keep h5).lt
        go_upto_region 19 with (go_at_call 11; refine (H11o.out _ h5).mono ?_; rintro e w16 ⟨a6, c6, b6, d6, rfl, hr6, hs6, hG6⟩)
        have h6 := h5.t hG6
        clear m0 m1 m2 m3 m4 lm n0 n1 n2 n3 n4 ln p0 p1 lp
        have HR6 := Lib.hid hr6
        clear hr6
        have HT6 := Lib.hid hs6
        clear hs6
        have m0 := (HO0.out.keep h6).cell 0
        have m1 := (HO0.out.keep h6).cell 1
        have m2 := (HO0.out.keep h6).cell 2
        have m3 := (HO0.out.keep h6).cell 3
        have m4 := (HO0.out.keep h6).cell 4
        have lm := (HO0.out.keep h6).lt
        have n0 := (HOK.out.keep h6).cell 0
        have n1 := (HOK.out.keep h6).cell 1
        have n2 := (HOK.out.keep h6).cell 2
        have n3 := (HOK.out.keep h6).cell 3
        have n4 := (HOK.out.keep h6).cell 4
        have ln := (HOK.out.keep h6).lt
        have p0 := (HO1.out.keep h6).cell 0
        have p1 := (HO1.out.keep h6).cell 1
        have lp := (HO1.out.keep h6).lt
        go_upto_region 20 with (go_at_call 15; refine (H15c.out _ h6).mono ?_; rintro e w17 ⟨a7, c7, rfl, hr7, hG7⟩)
        have h7 := h6.t hG7
        clear m0 m1 m2 m3 m4 lm n0 n1 n2 n3 n4 ln p0 p1 lp
        have HR7 := Lib.hid hr7
        clear hr7
        have m0 := (HO0.out.keep h7).cell 0
        have m1 := (HO0.out.keep h7).cell 1
        have m2 := (HO0.out.keep h7).cell 2
        have m3 := (HO0.out.keep h7).cell 3
        have m4 := (HO0.out.keep h7).cell 4
        have lm := (HO0.out.keep h7).lt
        have n0 := (HOK.out.keep h7).cell 0
        have n1 := (HOK.out.keep h7).cell 1
        have n2 := (HOK.out.keep h7).cell 2
        have n3 := (HOK.out.keep h7).cell 3
        have n4 := (HOK.out.keep h7).cell 4
        have ln := (HOK.out.keep h7).lt
        have p0 := (HO1.out.keep h7).cell 0
        have p1 := (HO1.out.keep h7).cell 1
        have lp := (HO1.out.keep h7).lt
        go_upto_region 21 with (go_at_call 15; refine (H15o.out _ h7).mono ?_; rintro e w18 ⟨a8, c8, rfl, hr8, hG8⟩)
        have h8 := h7.t hG8
        clear m0 m1 m2 m3 m4 lm n0 n1 n2 n3 n4 ln p0 p1 lp
        have HR8 := Lib.hid hr8
        clear hr8
        have HS1 := Lib.hid (sameS_any LO a1 a2 c1 c2 w18 (HR1.out.below ((((((hG2.t hG3).t hG4).t hG5).t hG6).t hG7).t hG8)) (HR2.out.below (((((hG3.t hG4).t hG5).t hG6).t hG7).t hG8)) hl1)
        have HS2 := Lib.hid (fun (W : World) (hW : G w18 W) => sameI_any LI a3 a4 c3 c4 W ((HR3.out.below ((((hG4.t hG5).t hG6).t hG7).t hG8)).below hW) ((HR4.out.below (((hG5.t hG6).t hG7).t hG8)).below hW) hl2)
        have HS3 := Lib.hid (fun (W : World) (hW : G w18 W) => sameI_any LS a5 a6 c5 c6 W ((HR5.out.below ((hG6.t hG7).t hG8)).below hW) ((HR6.out.below (hG7.t hG8)).below hW) hl3)
        have HS4 := Lib.hid (fun (W : World) (hW : G w18 W) => sameI_any LM b5 b6 d5 d6 W ((HT5.out.below ((hG6.t hG7).t hG8)).below hW) ((HT6.out.below (hG7.t hG8)).below hW) hl4)
        have HS5 := Lib.hid (fun (W : World) (hW : G w18 W) => sameI_any LA a7 a8 c7 c8 W ((HR7.out.below hG8).below hW) (HR8.out.below hW) hl5)
        have gE := gz.t h8
        clear HR1 HR2 HR3 HR4 HR5 HR6 HR7 HR8 HT5 HT6 hG1 hG2 hG3 hG4 hG5 hG6 hG7 hG8 h0 h1 h2 h3 h4 h5 h6 h7 h8 hl1 hl2 hl3 hl4 hl5 H23c H23o H24c H24o H11c H11o H15c H15o HO0 HO1 HOK gz
        go_wp2_with (first
          | (go_at_call 28; refine HS1.out.mono ?_; rintro e v1 ⟨rfl, hv1⟩; clear HS1)
          | (go_at_call 17; refine (HS2.out _ hv1).mono ?_; rintro e v2 ⟨rfl, hv2⟩; have g2 := hv1.t hv2; clear HS2)
          | (go_at_call 17; refine (HS3.out _ g2).mono ?_; rintro e v3 ⟨rfl, hv3⟩; have g3 := g2.t hv3; clear HS3)
          | (go_at_call 17; refine (HS4.out _ g3).mono ?_; rintro e v4 ⟨rfl, hv4⟩; have g5 := g3.t hv4; clear HS4)
          | (go_at_call 17; refine (HS5.out _ g5).mono ?_; rintro e v5 ⟨rfl, hv5⟩; have g6 := g5.t hv5; clear HS5)
          | (go_at_call 9; refine (HWK.out _).mono ?_; rintro e v6 ⟨rfl, hv6⟩; have g7 := g6.t hv6; clear HWK))
        have gz := gE.t g7
        first | exact ⟨rfl, gz⟩ | (go_ret; exact ⟨rfl, gz⟩)
      · have hnpi : ¬ (0 : Int) < (yacts.length : Int) := by omega
        have hn0 : yacts.length = 0 := by omega
        have bK := KC.out _ HFR.out
        have bC := CC.out _ HFR.out
        have bX := XC.out _ HFR.out
        have gz := GW.out _ HFR.out
        have hrA : RowE Ac.v 8 wo oa yacts := .inl hn0
        have hrD : RowE Du.v 4 wo oda yduties := by
          have h0 := own_Fr HOD.out HFR.out HDN.out
          obtain ⟨a8, c8, e8, r8⟩ := own_du h0
          injection e8 with e8 _ _
          rw [← e8] at r8
          exact r8
        have hsim : Sim ⟨ybks, ybds, yaa, yac, yacts, yda, ydc, yduties, yen⟩ ⟨ybks, ybds, oa, oc, yacts, oda, odc, yduties, yen⟩ := sim_of rfl rfl rfl rfl yacts (List.Perm.refl _) (.inl rfl) (by show yacts.length ≤ 20; omega)
        have e1 : yacts.length = yacts.length := rfl
        clear HFR HRW HP hn0
        have mc2 := bC.cell 2
        have lc0 := bC.lt
        obtain ⟨Wz, rfl⟩ : ∃ W, W = wo := ⟨_, rfl⟩
        go_upto_region 13 with fail
        clear m2 l0 mc2 lc0 hnp hnpi hlt hki hi
        have hoAt : (⟨ybks, ybds, oa, oc, yacts, oda, odc, yduties, yen⟩ : Cv).At Wz := Cv.At.of (HAT.out.keep gz) hsim hrA hrD
        obtain ⟨LO, LI, LS, LM, LA, q1, q2, q3, hl1, hl2, hl3, hl4, hl5, h23c, h23o, h24c, h24o, h11c, h11o, h15c, h15o⟩ := ans_k HFO.out hsim (by have := HQ.out; exact this.2.2.1) (by have := HQ.out; exact this.2.2.2) x0 x1 Wz (HAT.out.keep gz) hoAt
        unfold Cv.v at h23c h23o h24c h24o h11c h11o h15c h15o
        dsimp only at h23c h23o h24c h24o h11c h11o h15c h15o
        rw [e1] at h23o h24o h11o h15o
        have H23c := Lib.hid h23c
        have H23o := Lib.hid h23o
        have H24c := Lib.hid h24c
        have H24o := Lib.hid h24o
        have H11c := Lib.hid h11c
        have H11o := Lib.hid h11o
        have H15c := Lib.hid h15c
        have H15o := Lib.hid h15o
        have HO0 := Lib.hid bC
        have HO1 := Lib.hid bX
        have HOK := Lib.hid bK
        clear hoAt hsim hrA hrD e1 h23c h23o h24c h24o h11c h11o h15c h15o bC bX bK HFO HAT HQ HDN HGE HKN GW KC CC XC HOA HOD HC23 HC24 HC11 HC15 HBI
        have h0 : G Wz Wz := G.rf _
        have m0 := (HO0.out.keep h0).cell 0
        have m1 := (HO0.out.keep h0).cell 1
        have m2 := (HO0.out.keep h0).cell 2
        have m3 := (HO0.out.keep h0).cell 3
        have m4 := (HO0.out.keep h0).cell 4
        have lm := (HO0.out.keep h0).lt
        have n0 := (HOK.out.keep h0).cell 0
        have n1 := (HOK.out.keep h0).cell 1
        have n2 := (HOK.out.keep h0).cell 2
        have n3 := (HOK.out.keep h0).cell 3
        have n4 := (HOK.out.keep h0).cell 4
        have ln := (HOK.out.keep h0).lt
        have p0 := (HO1.out.keep h0).cell 0
        have p1 := (HO1.out.keep h0).cell 1
        have lp := (HO1.out.keep h0).lt
        go_upto_region 14 with (go_at_call 23; refine (H23c.out _ h0).mono ?_; rintro e w11 ⟨a1, c1, rfl, hr1, hG1⟩)
        have h1 := h0.t hG1
        clear m0 m1 m2 m3 m4 lm n0 n1 n2 n3 n4 ln p0 p1 lp
        have HR1 := Lib.hid hr1
        clear hr1
        have m0 := (HO0.out.keep h1).cell 0
        have m1 := (HO0.out.keep h1).cell 1
        have m2 := (HO0.out.keep h1).cell 2
        have m3 := (HO0.out.keep h1).cell 3
        have m4 := (HO0.out.keep h1).cell 4
        have lm := (HO0.out.keep h1).lt
        have n0 := (HOK.out.keep h1).cell 0
        have n1 := (HOK.out.keep h1).cell 1
        have n2 := (HOK.out.keep h1).cell 2
        have n3 := (HOK.out.keep h1).cell 3
        have n4 := (HOK.out.keep h1).cell 4
        have ln := (HOK.out.keep h1).lt
        have p0 := (HO1.out.keep h1).cell 0
        have p1 := (HO1.out.keep h1).cell 1
        have lp := (HO1.out.keep h1).lt
        go_upto_region 15 with (go_at_call 23; refine (H23o.out _ h1).mono ?_; rintro e w12 ⟨a2, c2, rfl, hr2, hG2⟩)
        have h2 := h1.t hG2
        clear m0 m1 m2 m3 m4 lm n0 n1 n2 n3 n4 ln p0 p1 lp
        have HR2 := Lib.hid hr2
        clear hr2
        have m0 := (HO0.out.keep h2).cell 0
        have m1 := (HO0.out.keep h2).cell 1
        have m2 := (HO0.out.keep h2).cell 2
        have m3 := (HO0.out.keep h2).cell 3
        have m4 := (HO0.out.keep h2).cell 4
        have lm := (HO0.out.keep h2).lt
        have n0 := (HOK.out.keep h2).cell 0
        have n1 := (HOK.out.keep h2).cell 1
        have n2 := (HOK.out.keep h2).cell 2
        have n3 := (HOK.out.keep h2).cell 3
        have n4 := (HOK.out.keep h2).cell 4
        have ln := (HOK.out.keep h2).lt
        have p0 := (HO1.out.keep h2).cell 0
        have p1 := (HO1.out.keep h2).cell 1
        have lp := (HO1.out.keep h2).lt
        go_upto_region 16 with (go_at_call 24; refine (H24c.out _ h2).mono ?_; rintro e w13 ⟨a3, c3, rfl, hr3, hG3⟩)
        have h3 := h2.t hG3
        clear m0 m1 m2 m3 m4 lm n0 n1 n2 n3 n4 ln p0 p1 lp
        have HR3 := Lib.hid hr3
        clear hr3
        have m0 := (HO0.out.keep h3).cell 0
        have m1 := (HO0.out.keep h3).cell 1
        have m2 := (HO0.out.keep h3).cell 2
        have m3 := (HO0.out.keep h3).cell 3
        have m4 := (HO0.out.keep h3).cell 4
        have lm := (HO0.out.keep h3).lt
        have n0 := (HOK.out.keep h3).cell 0
        have n1 := (HOK.out.keep h3).cell 1
        have n2 := (HOK.out.keep h3).cell 2
        have n3 := (HOK.out.keep h3).cell 3
        have n4 := (HOK.out.keep h3).cell 4
        have ln := (HOK.out.keep h3).lt
        have p0 := (HO1.out.keep h3).cell 0
        have p1 := (HO1.out.keep h3).cell 1
        have lp := (HO1.out.keep h3).lt
        go_upto_region 17 with (go_at_call 24; refine (H24o.out _ h3).mono ?_; rintro e w14 ⟨a4, c4, rfl, hr4, hG4⟩)
        have h4 := h3.t hG4
        clear m0 m1 m2 m3 m4 lm n0 n1 n2 n3 n4 ln p0 p1 lp
        have HR4 := Lib.hid hr4
        clear hr4
        have m0 := (HO0.out.keep h4).cell 0
        have m1 := (HO0.out.keep h4).cell 1
        have m2 := (HO0.out.keep h4).cell 2
        have m3 := (HO0.out.keep h4).cell 3
        have m4 := (HO0.out.keep h4).cell 4
        have lm := (HO0.out.keep h4).lt
        have n0 := (HOK.out.keep h4).cell 0
        have n1 := (HOK.out.keep h4).cell 1
        have n2 := (HOK.out.keep h4).cell 2
        have n3 := (HOK.out.keep h4).cell 3
        have n4 := (HOK.out.keep h4).cell 4
        have ln := (HOK.out.keep h4).lt
        have p0 := (HO1.out.keep h4).cell 0
        have p1 := (HO1.out.keep h4).cell 1
        have lp := (HO1.out.keep h4).lt
        go_upto_region 18 with (go_at_call 11; refine (H11c.out _ h4).mono ?_; rintro e w15 ⟨a5, c5, b5, d5, rfl, hr5, hs5, hG5⟩)
        have h5 := h4.t hG5
        clear m0 m1 m2 m3 m4 lm n0 n1 n2 n3 n4 ln p0 p1 lp
        have HR5 := Lib.hid hr5
        clear hr5
        have HT5 := Lib.hid hs5
        clear hs5
        have m0 := (HO0.out.keep h5).cell 0
        have m1 := (HO0.out.keep h5).cell 1
        have m2 := (HO0.out.keep h5).cell 2
        have m3 := (HO0.out.keep h5).cell 3
        have m4 := (HO0.out.keep h5).cell 4
        have lm := (HO0.out.keep h5).lt
        have n0 := (HOK.out.keep h5).cell 0
        have n1 := (HOK.out.keep h5).cell 1
        have n2 := (HOK.out.keep h5).cell 2
        have n3 := (HOK.out.keep h5).cell 3
        have n4 := (HOK.out.keep h5).cell 4
        have ln := (HOK.out.keep h5).lt
        have p0 := (HO1.out.keep h5).cell 0
        have p1 := (HO1.out.keep h5).cell 1
        have lp := (HO1.out.keep h5).lt
        go_upto_region 19 with (go_at_call 11; refine (H11o.out _ h5).mono ?_; rintro e w16 ⟨a6, c6, b6, d6, rfl, hr6, hs6, hG6⟩)
        have h6 := h5.t hG6
        clear m0 m1 m2 m3 m4 lm n0 n1 n2 n3 n4 ln p0 p1 lp
        have HR6 := Lib.hid hr6
        clear hr6
        have HT6 := Lib.hid hs6
        clear hs6
        have m0 := (HO0.out.keep h6).cell 0
        have m1 := (HO0.out.keep h6).cell 1
        have m2 := (HO0.out.keep h6).cell 2
        have m3 := (HO0.out.keep h6).cell 3
        have m4 := (HO0.out.keep h6).cell 4
        have lm := (HO0.out.keep h6).lt
        have n0 := (HOK.out.keep h6).cell 0
        have n1 := (HOK.out.keep h6).cell 1
        have n2 := (HOK.out.keep h6).cell 2
        have n3 := (HOK.out.keep h6).cell 3
        have n4 := (HOK.out.keep h6).cell 4
        have ln := (HOK.out.keep h6).lt
        have p0 := (HO1.out.keep h6).cell 0
        have p1 := (HO1.out.keep h6).cell 1
        have lp := (HO1.out.keep h6).lt
        go_upto_region 20 with (go_at_call 15; refine (H15c.out _ h6).mono ?_; rintro e w17 ⟨a7, c7, rfl, hr7, hG7⟩)
        have h7 := h6.t hG7
        clear m0 m1 m2 m3 m4 lm n0 n1 n2 n3 n4 ln p0 p1 lp
        have HR7 := Lib.hid hr7
        clear hr7
        have m0 := (HO0.out.keep h7).cell 0
        have m1 := (HO0.out.keep h7).cell 1
        have m2 := (HO0.out.keep h7).cell 2
        have m3 := (HO0.out.keep h7).cell 3
        have m4 := (HO0.out.keep h7).cell 4
        have lm := (HO0.out.keep h7).lt
        have n0 := (HOK.out.keep h7).cell 0
        have n1 := (HOK.out.keep h7).cell 1
        have n2 := (HOK.out.keep h7).cell 2
        have n3 := (HOK.out.keep h7).cell 3
        have n4 := (HOK.out.keep h7).cell 4
        have ln := (HOK.out.keep h7).lt
        have p0 := (HO1.out.keep h7).cell 0
        have p1 := (HO1.out.keep h7).cell 1
        have lp := (HO1.out.keep h7).lt
        go_upto_region 21 with (go_at_call 15; refine (H15o.out _ h7).mono ?_; rintro e w18 ⟨a8, c8, rfl, hr8, hG8⟩)
        have h8 := h7.t hG8
        clear m0 m1 m2 m3 m4 lm n0 n1 n2 n3 n4 ln p0 p1 lp
        have HR8 := Lib.hid hr8
        clear hr8
        have HS1 := Lib.hid (sameS_any LO a1 a2 c1 c2 w18 (HR1.out.below ((((((hG2.t hG3).t hG4).t hG5).t hG6).t hG7).t hG8)) (HR2.out.below (((((hG3.t hG4).t hG5).t hG6).t hG7).t hG8)) hl1)
        have HS2 := Lib.hid (fun (W : World) (hW : G w18 W) => sameI_any LI a3 a4 c3 c4 W ((HR3.out.below ((((hG4.t hG5).t hG6).t hG7).t hG8)).below hW) ((HR4.out.below (((hG5.t hG6).t hG7).t hG8)).below hW) hl2)
        have HS3 := Lib.hid (fun (W : World) (hW : G w18 W) => sameI_any LS a5 a6 c5 c6 W ((HR5.out.below ((hG6.t hG7).t hG8)).below hW) ((HR6.out.below (hG7.t hG8)).below hW) hl3)
        have HS4 := Lib.hid (fun (W : World) (hW : G w18 W) => sameI_any LM b5 b6 d5 d6 W ((HT5.out.below ((hG6.t hG7).t hG8)).below hW) ((HT6.out.below (hG7.t hG8)).below hW) hl4)
        have HS5 := Lib.hid (fun (W : World) (hW : G w18 W) => sameI_any LA a7 a8 c7 c8 W ((HR7.out.below hG8).below hW) (HR8.out.below hW) hl5)
        have gE := gz.t h8
        clear HR1 HR2 HR3 HR4 HR5 HR6 HR7 HR8 HT5 HT6 hG1 hG2 hG3 hG4 hG5 hG6 hG7 hG8 h0 h1 h2 h3 h4 h5 h6 h7 h8 hl1 hl2 hl3 hl4 hl5 H23c H23o H24c H24o H11c H11o H15c H15o HO0 HO1 HOK gz
        go_wp2_with (first
          | (go_at_call 28; refine HS1.out.mono ?_; rintro e v1 ⟨rfl, hv1⟩; clear HS1)
          | (go_at_call 17; refine (HS2.out _ hv1).mono ?_; rintro e v2 ⟨rfl, hv2⟩; have g2 := hv1.t hv2; clear HS2)
          | (go_at_call 17; refine (HS3.out _ g2).mono ?_; rintro e v3 ⟨rfl, hv3⟩; have g3 := g2.t hv3; clear HS3)
          | (go_at_call 17; refine (HS4.out _ g3).mono ?_; rintro e v4 ⟨rfl, hv4⟩; have g5 := g3.t hv4; clear HS4)
          | (go_at_call 17; refine (HS5.out _ g5).mono ?_; rintro e v5 ⟨rfl, hv5⟩; have g6 := g5.t hv5; clear HS5)
          | (go_at_call 9; refine (HWK.out _).mono ?_; rintro e v6 ⟨rfl, hv6⟩; have g7 := g6.t hv6; clear HWK))
        have gz := gE.t g7
        first | exact ⟨rfl, gz⟩ | (go_ret; exact ⟨rfl, gz⟩)
end Go.Proofs.YtabnpimidhlbiaaGreat

