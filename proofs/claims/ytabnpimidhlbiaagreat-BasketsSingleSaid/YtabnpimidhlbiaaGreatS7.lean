import Derived.Below
import Derived.BigQuiet
import Derived.ChangeOld
import Derived.Deep.AppendLies
import Derived.Deep.Draws
import Derived.Deep.QuietTactic
import Derived.Deep.RegionHeld
import Derived.Deep.Slices
import Derived.Ground.Names2Prog
import Derived.Ground.SlsfProg
import Derived.Ground.SlsoProg
import Derived.IntWalk
import Derived.Laws.AppendOwn
import Derived.Laws.AppendOwnNone
import Derived.Laws.IdiomCopy
import Derived.Laws.OwnMore
import Derived.Laws.Rows
import Derived.Laws.StructEq
import Derived.Lib.Hide
import Derived.Lib.SlKeysI
import Derived.Lib.SliceRun
import Derived.Lib.SmallJoins
import Derived.LoopIn
import Derived.LoopNIn
import Derived.Maps.OwnSet
import Derived.Maps.Views
import Derived.OpenShut
import Derived.OrdersHeld
import Derived.OrdersIn
import Derived.Outline
import Derived.OwnWalkIn
import Derived.ProofKit
import Derived.RangeFuncBound
import Derived.RangeFuncCalls
import Derived.RangeFuncLeaves
import Derived.RangeFuncNested
import Derived.Shelf.Abstract
import Derived.Shelf.GgSortFunc.InsertionK
import Derived.Shelf.RegionOpen
import Derived.Shelf.SlSortCmp.NoneTotal
import Derived.Shelf.SlSortCmp.WholeK
import Derived.Shelf.SlSorted.Search
import Derived.Shelf.Slices.Cells
import Derived.Shelf.Slices.CompactI
import Derived.Shelf.Slices.In.SortNone
import Derived.Shelf.Slices.SearchI
import Derived.Shelf.Small.Bits
import Derived.Shelf.Sort.Plain
import Derived.Shelf.Strconv.Itoa0
import Derived.Sort.Grow
import Derived.TacticsIn
import Derived.TacticsInMore
import Derived.Test.YtabnpimidhlbiaaGreatProg
import Derived.WalkKit
import Derived.WalkMore
import Derived.WalkSpells
import Derived.Test.YtabnpimidhlbiaaGreatS6
set_option linter.unusedSimpArgs false
set_option linter.unusedVariables false
namespace Go.Proofs.YtabnpimidhlbiaaGreat
theorem lookP_brv (p : Pe) (a : Ac) : (lookP p a).1.br = if a.sl ≠ p.sl ∧ p.br = false then true else p.br := by
  unfold lookP
  by_cases h5 : a.kd = 5 <;> by_cases h1 : a.sl = p.sl <;> cases hb : p.br <;> simp [h5, h1, hb]
theorem lookP_whv (p : Pe) (a : Ac) : (lookP p a).1.wh = if a.sl = p.sl then a.tm else p.wh := by
  unfold lookP
  by_cases h5 : a.kd = 5 <;> by_cases h1 : a.sl = p.sl <;> cases hb : p.br <;> simp [h5, h1, hb]
theorem strA_tm {a : Ac} {l : List Ac} (h : StrA (a :: l)) : ∀ x ∈ l, a.tm ≤ x.tm := fun x hx => by
  have := (List.pairwise_cons.1 h).1 x hx
  unfold ltA at this; omega
end Go.Proofs.YtabnpimidhlbiaaGreat

set_option linter.unusedSimpArgs false
set_option linter.unusedVariables false
namespace Go.Proofs.YtabnpimidhlbiaaGreat
open Go.RowKit Go.Shelf Go.Sort
attribute [local go_sem] Oper.semAt_some
theorem exA_cells : (#[.int .i64 1, .int .i64 5, .int .i64 1, .int .i64 0, .int .i64 0, .int .i64 7, .int .i64 8, .int .i64 0, .int .i64 2, .int .i64 6, .int .i64 1, .int .i64 0, .int .i64 1, .int .i64 7, .int .i64 9, .int .i64 0, .int .i64 3, .int .i64 7, .int .i64 1, .int .i64 1, .int .i64 2, .int .i64 8, .int .i64 9, .int .i64 0, .int .i64 4, .int .i64 10, .int .i64 3, .int .i64 0, .int .i64 0, .int .i64 0, .int .i64 0, .int .i64 501, .int .i64 5, .int .i64 10, .int .i64 3, .int .i64 1, .int .i64 0, .int .i64 0, .int .i64 0, .int .i64 502, .int .i64 6, .int .i64 40, .int .i64 4, .int .i64 0, .int .i64 0, .int .i64 0, .int .i64 0, .int .i64 501, .int .i64 7, .int .i64 60, .int .i64 4, .int .i64 0, .int .i64 0, .int .i64 0, .int .i64 0, .int .i64 0, .int .i64 8, .int .i64 80, .int .i64 5, .int .i64 0, .int .i64 0, .int .i64 0, .int .i64 0, .int .i64 0, .int .i64 9, .int .i64 80, .int .i64 5, .int .i64 1, .int .i64 0, .int .i64 0, .int .i64 0, .int .i64 502, .int .i64 10, .int .i64 81, .int .i64 2, .int .i64 0, .int .i64 0, .int .i64 0, .int .i64 0, .int .i64 0] : Array Value) = (acV exA).toArray := rfl
theorem exD_cells : (#[.int .i64 3, .int .i64 0, .int .i64 0, .int .i64 30, .int .i64 4, .int .i64 0, .int .i64 31, .int .i64 50, .int .i64 4, .int .i64 1, .int .i64 0, .int .i64 99] : Array Value) = (duV exD).toArray := rfl
def exR (B : Nat) : Cv := exC (some ⟨B + 1, 0, none⟩) 10 (some ⟨B + 1 + 1, 0, none⟩) 3
theorem exR_v (B : Nat) : (exR B).v = #[.int .i64 2, .int .i64 3, .slice (some ⟨B + 1, 0, none⟩) 10 10, .slice (some ⟨B + 1 + 1, 0, none⟩) 3 3, .int .i64 100] := rfl
theorem exR_at {B : Nat} {W : World} (h1 : Blk W (B + 1) 54 #[.int .i64 1, .int .i64 5, .int .i64 1, .int .i64 0, .int .i64 0, .int .i64 7, .int .i64 8, .int .i64 0, .int .i64 2, .int .i64 6, .int .i64 1, .int .i64 0, .int .i64 1, .int .i64 7, .int .i64 9, .int .i64 0, .int .i64 3, .int .i64 7, .int .i64 1, .int .i64 1, .int .i64 2, .int .i64 8, .int .i64 9, .int .i64 0, .int .i64 4, .int .i64 10, .int .i64 3, .int .i64 0, .int .i64 0, .int .i64 0, .int .i64 0, .int .i64 501, .int .i64 5, .int .i64 10, .int .i64 3, .int .i64 1, .int .i64 0, .int .i64 0, .int .i64 0, .int .i64 502, .int .i64 6, .int .i64 40, .int .i64 4, .int .i64 0, .int .i64 0, .int .i64 0, .int .i64 0, .int .i64 501, .int .i64 7, .int .i64 60, .int .i64 4, .int .i64 0, .int .i64 0, .int .i64 0, .int .i64 0, .int .i64 0, .int .i64 8, .int .i64 80, .int .i64 5, .int .i64 0, .int .i64 0, .int .i64 0, .int .i64 0, .int .i64 0, .int .i64 9, .int .i64 80, .int .i64 5, .int .i64 1, .int .i64 0, .int .i64 0, .int .i64 0, .int .i64 502, .int .i64 10, .int .i64 81, .int .i64 2, .int .i64 0, .int .i64 0, .int .i64 0, .int .i64 0, .int .i64 0]) (h2 : Blk W (B + 1 + 1) 56 #[.int .i64 3, .int .i64 0, .int .i64 0, .int .i64 30, .int .i64 4, .int .i64 0, .int .i64 31, .int .i64 50, .int .i64 4, .int .i64 1, .int .i64 0, .int .i64 99]) : (exR B).At W := by
  refine ⟨?_, ?_, (show 10 ≤ 1000 by decide), (show 3 ≤ 1000 by decide), (show IntKind.i64.wrap (2 - 1) = 2 - 1 by decide), (show IntKind.i64.wrap (3 - 1) = 3 - 1 by decide)⟩
  · refine .inr ⟨_, 0, rfl, h1.lt, fun i hi r hr => ?_⟩
    rw [exA_cells] at h1
    have e := acV_get exA (i := i) (r := r) hi hr
    rw [h1.cell, Nat.zero_add, List.getElem?_toArray, e, acE, Array.getElem?_toList]
    rfl
  · refine .inr ⟨_, 0, rfl, h2.lt, fun i hi r hr => ?_⟩
    rw [exD_cells] at h2
    have e := duV_get exD (i := i) (r := r) hi hr
    rw [h2.cell, Nat.zero_add, List.getElem?_toArray, e, duE, Array.getElem?_toList]
    rfl
theorem res31 (tmps : Array Value) (w : World) (g : Nat) (a2 a3 : Option Addr) (h : tmps.getD 0 undef = .pointer (some ⟨g, 0, none⟩)) (hB : Blk w g 25 #[.int .i64 2, .int .i64 3, .slice a2 10 10, .slice a3 3 3, .int .i64 100]) :
    (results Tryz.f31 tmps).run Tryz.prog w = .ok (.agg #[.int .i64 2, .int .i64 3, .slice a2 10 10, .slice a3 3 3, .int .i64 100]) w := by
  have c0 := hB.cell 0
  have c1 := hB.cell 1
  have c2 := hB.cell 2
  have c3 := hB.cell 3
  have c4 := hB.cell 4
  clear hB
  have hr : Tryz.f31.results = #[.cell 0 25] := rfl
  have h' : tmps[0]?.getD undef = .pointer (some ⟨g, 0, none⟩) := by simpa using h
  simp only [results, hr]
  go_simp
set_option maxRecDepth 100000 in
set_option maxHeartbeats 8000000 in
theorem Example_any (w : World) : Calls Tryz.prog 31 #[] w fun e w' => e = .returned (.agg (exR w.heap.size).v) ∧ (exR w.heap.size).At w' ∧ G w w' := by
  obtain ⟨W0, hW0⟩ : ∃ W0, W0 = w.alloc (.cells #[.int .i64 2, .int .i64 3, .slice (some ⟨w.heap.size + 1, 0, none⟩) 10 10, .slice (some ⟨w.heap.size + 1 + 1, 0, none⟩) 3 3, .int .i64 100] 25) := ⟨_, rfl⟩
  have hs0 : W0.heap.size = w.heap.size + 1 := by rw [hW0, World.size_alloc]
  obtain ⟨W1, hW1⟩ : ∃ W1, W1 = W0.alloc (.cells #[.int .i64 1, .int .i64 5, .int .i64 1, .int .i64 0, .int .i64 0, .int .i64 7, .int .i64 8, .int .i64 0, .int .i64 2, .int .i64 6, .int .i64 1, .int .i64 0, .int .i64 1, .int .i64 7, .int .i64 9, .int .i64 0, .int .i64 3, .int .i64 7, .int .i64 1, .int .i64 1, .int .i64 2, .int .i64 8, .int .i64 9, .int .i64 0, .int .i64 4, .int .i64 10, .int .i64 3, .int .i64 0, .int .i64 0, .int .i64 0, .int .i64 0, .int .i64 501, .int .i64 5, .int .i64 10, .int .i64 3, .int .i64 1, .int .i64 0, .int .i64 0, .int .i64 0, .int .i64 502, .int .i64 6, .int .i64 40, .int .i64 4, .int .i64 0, .int .i64 0, .int .i64 0, .int .i64 0, .int .i64 501, .int .i64 7, .int .i64 60, .int .i64 4, .int .i64 0, .int .i64 0, .int .i64 0, .int .i64 0, .int .i64 0, .int .i64 8, .int .i64 80, .int .i64 5, .int .i64 0, .int .i64 0, .int .i64 0, .int .i64 0, .int .i64 0, .int .i64 9, .int .i64 80, .int .i64 5, .int .i64 1, .int .i64 0, .int .i64 0, .int .i64 0, .int .i64 502, .int .i64 10, .int .i64 81, .int .i64 2, .int .i64 0, .int .i64 0, .int .i64 0, .int .i64 0, .int .i64 0] 54) := ⟨_, rfl⟩
  have hs1 : W1.heap.size = w.heap.size + 1 + 1 := by rw [hW1, World.size_alloc, hs0]
  obtain ⟨W2, hW2⟩ : ∃ W2, W2 = W1.alloc (.cells #[.int .i64 3, .int .i64 0, .int .i64 0, .int .i64 30, .int .i64 4, .int .i64 0, .int .i64 31, .int .i64 50, .int .i64 4, .int .i64 1, .int .i64 0, .int .i64 99] 56) := ⟨_, rfl⟩
  have n0 : Blk W0 w.heap.size 25 #[.int .i64 2, .int .i64 3, .slice (some ⟨w.heap.size + 1, 0, none⟩) 10 10, .slice (some ⟨w.heap.size + 1 + 1, 0, none⟩) 3 3, .int .i64 100] := by rw [hW0]; exact Blk.new _ _ _
  have n1 : Blk W1 (w.heap.size + 1) 54 #[.int .i64 1, .int .i64 5, .int .i64 1, .int .i64 0, .int .i64 0, .int .i64 7, .int .i64 8, .int .i64 0, .int .i64 2, .int .i64 6, .int .i64 1, .int .i64 0, .int .i64 1, .int .i64 7, .int .i64 9, .int .i64 0, .int .i64 3, .int .i64 7, .int .i64 1, .int .i64 1, .int .i64 2, .int .i64 8, .int .i64 9, .int .i64 0, .int .i64 4, .int .i64 10, .int .i64 3, .int .i64 0, .int .i64 0, .int .i64 0, .int .i64 0, .int .i64 501, .int .i64 5, .int .i64 10, .int .i64 3, .int .i64 1, .int .i64 0, .int .i64 0, .int .i64 0, .int .i64 502, .int .i64 6, .int .i64 40, .int .i64 4, .int .i64 0, .int .i64 0, .int .i64 0, .int .i64 0, .int .i64 501, .int .i64 7, .int .i64 60, .int .i64 4, .int .i64 0, .int .i64 0, .int .i64 0, .int .i64 0, .int .i64 0, .int .i64 8, .int .i64 80, .int .i64 5, .int .i64 0, .int .i64 0, .int .i64 0, .int .i64 0, .int .i64 0, .int .i64 9, .int .i64 80, .int .i64 5, .int .i64 1, .int .i64 0, .int .i64 0, .int .i64 0, .int .i64 502, .int .i64 10, .int .i64 81, .int .i64 2, .int .i64 0, .int .i64 0, .int .i64 0, .int .i64 0, .int .i64 0] := by rw [hW1]; have := Blk.new W0 54 #[.int .i64 1, .int .i64 5, .int .i64 1, .int .i64 0, .int .i64 0, .int .i64 7, .int .i64 8, .int .i64 0, .int .i64 2, .int .i64 6, .int .i64 1, .int .i64 0, .int .i64 1, .int .i64 7, .int .i64 9, .int .i64 0, .int .i64 3, .int .i64 7, .int .i64 1, .int .i64 1, .int .i64 2, .int .i64 8, .int .i64 9, .int .i64 0, .int .i64 4, .int .i64 10, .int .i64 3, .int .i64 0, .int .i64 0, .int .i64 0, .int .i64 0, .int .i64 501, .int .i64 5, .int .i64 10, .int .i64 3, .int .i64 1, .int .i64 0, .int .i64 0, .int .i64 0, .int .i64 502, .int .i64 6, .int .i64 40, .int .i64 4, .int .i64 0, .int .i64 0, .int .i64 0, .int .i64 0, .int .i64 501, .int .i64 7, .int .i64 60, .int .i64 4, .int .i64 0, .int .i64 0, .int .i64 0, .int .i64 0, .int .i64 0, .int .i64 8, .int .i64 80, .int .i64 5, .int .i64 0, .int .i64 0, .int .i64 0, .int .i64 0, .int .i64 0, .int .i64 9, .int .i64 80, .int .i64 5, .int .i64 1, .int .i64 0, .int .i64 0, .int .i64 0, .int .i64 502, .int .i64 10, .int .i64 81, .int .i64 2, .int .i64 0, .int .i64 0, .int .i64 0, .int .i64 0, .int .i64 0]; rw [hs0] at this; exact this
  have n2 : Blk W2 (w.heap.size + 1 + 1) 56 #[.int .i64 3, .int .i64 0, .int .i64 0, .int .i64 30, .int .i64 4, .int .i64 0, .int .i64 31, .int .i64 50, .int .i64 4, .int .i64 1, .int .i64 0, .int .i64 99] := by rw [hW2]; have := Blk.new W1 56 #[.int .i64 3, .int .i64 0, .int .i64 0, .int .i64 30, .int .i64 4, .int .i64 0, .int .i64 31, .int .i64 50, .int .i64 4, .int .i64 1, .int .i64 0, .int .i64 99]; rw [hs1] at this; exact this
  have g0 : G w W0 := by rw [hW0]; exact (G.rf _).a _
  have g1 : G W0 W1 := by rw [hW1]; exact (G.rf _).a _
  have g2 : G W1 W2 := by rw [hW2]; exact (G.rf _).a _
  have HB0 := Lib.hid ((n0.keep g1).keep g2)
  have HX := Lib.hid (And.intro (exR_at (n1.keep g2) n2) ((g0.t g1).t g2))
  clear n0 n1 n2 hs0 hs1 g0 g1 g2
  have HEQ := Lib.hid (show W2 = _ from by rw [hW2, hW1, hW0])
  clear hW2 hW1 hW0
  go_enter Tryz.func31, Tryz.ntmps31
  go_wp2_with fail
  rw [← HEQ.out]
  try simp only [Exit.inBlock, Exit.then]
  refine bodyPost_ret (res31 _ _ w.heap.size _ _ rfl HB0.out) rfl ?_
  exact ⟨rfl, HX.out⟩
theorem exR_E (B : Nat) : folE (exR B) = 0 := by
  obtain ⟨k, hk, _⟩ := exJ (some ⟨B + 1, 0, none⟩) 10 (some ⟨B + 1 + 1, 0, none⟩) 3
  exact folE_some hk
theorem exR_q (B : Nat) : qErr (exR B) true = 0 := by unfold qErr; rw [if_pos (exR_E B), if_pos rfl]
theorem ex_Opn (B : Nat) (W : World) (h : (exR B).At W) : Calls Tryz.prog 23 #[.agg (exR B).v, .int .i64 0] W fun e w' => ∃ g c, e = .returned (.tuple #[.slice (some ⟨g, 0, none⟩) 1 c, .int .i64 0]) ∧ G W w' ∧ g < w'.heap.size ∧ w'.cell? ⟨g, 0, none⟩ = some (.int .i64 40) ∧ w'.cell? ⟨g, 1, none⟩ = some (.int .i64 59) := by
  refine (Openings_any (exR B) 0 W h).mono ?_
  rintro e w' ⟨v, l, rfl, hown, hG, _, hl⟩
  have e0 : upB 0 ((exR B).bks - 1) = true := rfl
  rw [e0, exR_q] at hl ⊢
  obtain ⟨k, hk, _, hps⟩ := exJ (some ⟨B + 1, 0, none⟩) 10 (some ⟨B + 1 + 1, 0, none⟩) 3
  have hl2 := hl rfl k hk
  rw [hps, ex_opn] at hl2
  subst hl2
  obtain ⟨g, cap, cur, rfl, hb, hlt, ht⟩ := own_some hown (by decide)
  exact ⟨g, cap, rfl, hG, hlt, take_cell hb ht (by decide) rfl, take_cell hb ht (by decide) rfl⟩
theorem ex_Str (B : Nat) (W : World) (h : (exR B).At W) : Calls Tryz.prog 11 #[.agg (exR B).v] W fun e w' => ∃ a1 c1 a2 c2, e = .returned (.tuple #[.slice a1 2 c1, .slice a2 2 c2, .int .i64 0]) ∧ G W w' ∧ IntsAt w' a1 [0, 1] ∧ IntsAt w' a2 [0, 1] := by
  refine (Struck_any (exR B) W h).mono ?_
  rintro e w' ⟨v1, v2, l1, l2, rfl, h1, h2, hG, _, hl⟩
  rw [exR_E]
  obtain ⟨k, hk, hpa, hps⟩ := exJ (some ⟨B + 1, 0, none⟩) 10 (some ⟨B + 1 + 1, 0, none⟩) 3
  obtain ⟨e1, e2⟩ := hl k hk
  rw [hps, hpa, show (exR B).bds.toNat = 3 from rfl, ex_sure] at e1
  rw [hps, hpa, show (exR B).bds.toNat = 3 from rfl, ex_may] at e2
  subst e1 e2
  obtain ⟨a1, c1, rfl, r1⟩ := own_ints h1
  obtain ⟨a2, c2, rfl, r2⟩ := own_ints h2
  exact ⟨a1, c1, a2, c2, rfl, hG, r1, r2⟩
theorem ex_Mrk (B : Nat) (ma : Option Addr) (mc : Nat) (W : World) (h : (exR B).At W) (hm : IntsAt W ma [7, 8, 9]) : Calls Tryz.prog 13 #[.agg (exR B).v, .slice ma 3 mc] W fun e w' => ∃ a c, e = .returned (.tuple #[.slice a 3 c, .int .i64 0]) ∧ G W w' ∧ IntsAt w' a [0, 1, 2] := by
  refine (Marked_any (exR B) [7, 8, 9] ma mc W h hm (by decide)).mono ?_
  rintro e w' ⟨v, l, rfl, hown, hG, _, hl⟩
  rw [ex_mrkD, exR_q] at hl ⊢
  obtain ⟨k, hk, hpa, _⟩ := exJ (some ⟨B + 1, 0, none⟩) 10 (some ⟨B + 1 + 1, 0, none⟩) 3
  have hl2 := hl rfl k hk
  rw [hpa, show (exR B).bds.toNat = 3 from rfl, ex_mark] at hl2
  subst hl2
  obtain ⟨a, c, rfl, r⟩ := own_ints hown
  exact ⟨a, c, rfl, hG, r⟩
theorem ex_Alo (B : Nat) (W : World) (h : (exR B).At W) : Calls Tryz.prog 15 #[.agg (exR B).v] W fun e w' => ∃ a c, e = .returned (.tuple #[.slice a 1 c, .int .i64 0]) ∧ G W w' ∧ IntsAt w' a [4] := by
  refine (Alone_any (exR B) W h).mono ?_
  rintro e w' ⟨v, l, er, rfl, hown, hG, _, hl⟩
  obtain ⟨k, hk, _, hps⟩ := exJ (some ⟨B + 1, 0, none⟩) 10 (some ⟨B + 1 + 1, 0, none⟩) 3
  obtain ⟨_, h2⟩ := hl k hk
  rw [hps] at h2
  obtain ⟨e1, rfl⟩ := h2 ex_brk
  rw [show (exR B).duties = exD from rfl, ex_alone] at e1
  subst e1
  obtain ⟨a, c, rfl, r⟩ := own_ints hown
  exact ⟨a, c, rfl, hG, r⟩
theorem eq61 (a b : Int) (w : World) : (binOp .eql 61 (.agg #[.int .i64 a, .int .i64 b]) (.agg #[.int .i64 a, .int .i64 b])).run Tryz.prog w = .ok (.bool true) w := by
  rw [run_eql_struct, show (10000 : Nat) = 9998 + 1 + 1 from rfl, eqSp]
  simp
theorem lit_ints (W : World) (l : List Int) (cs : Array Value) (hc : ∀ k, k < l.length → cs[k]? = some (.int .i64 (l.getD k 0))) : IntsAt (W.alloc (.cells cs 3)) (some ⟨W.heap.size, 0, none⟩) l :=
  .inr ⟨W.heap.size, 0, rfl, (Blk.new W 3 cs).lt, fun k hk => by rw [Nat.zero_add]; exact ((Blk.new W 3 cs).cell k).trans (hc k hk)⟩
theorem lit1 (W : World) (x : Int) : IntsAt (W.alloc (.cells #[.int .i64 x] 3)) (some ⟨W.heap.size, 0, none⟩) [x] := lit_ints W _ _ (fun k hk => match k, hk with | 0, _ => rfl)
theorem lit2 (W : World) (x y : Int) : IntsAt (W.alloc (.cells #[.int .i64 x, .int .i64 y] 3)) (some ⟨W.heap.size, 0, none⟩) [x, y] := lit_ints W _ _ (fun k hk => match k, hk with | 0, _ => rfl | 1, _ => rfl)
theorem lit3 (W : World) (x y z : Int) : IntsAt (W.alloc (.cells #[.int .i64 x, .int .i64 y, .int .i64 z] 3)) (some ⟨W.heap.size, 0, none⟩) [x, y, z] := lit_ints W _ _ (fun k hk => match k, hk with | 0, _ => rfl | 1, _ => rfl | 2, _ => rfl)
set_option maxRecDepth 100000 in
set_option maxHeartbeats 8000000 in
theorem works_any (w : World) : Calls Tryz.prog 9 #[] w fun e w' => e = .returned (.bool true) ∧ G w w' := by
  have HEX := Lib.hid (fun W : World => Example_any W)
  have HOP := Lib.hid ex_Opn
  have HST := Lib.hid ex_Str
  have HMK := Lib.hid ex_Mrk
  have HAL := Lib.hid ex_Alo
  go_enter Tryz.func9, Tryz.ntmps9
  go_upto_region 2 with (go_at_call 31; refine (HEX.out _).mono ?_; rintro e w1 ⟨rfl, hA1, hG1⟩; rw [exR_v])
  have ga := (G.rf w1).a (.cells #[.int .i64 2, .int .i64 3, .slice (some ⟨w.heap.size + 1, 0, none⟩) 10 10, .slice (some ⟨w.heap.size + 1 + 1, 0, none⟩) 3 3, .int .i64 100] 25)
  have b2 : Blk (w1.alloc (.cells #[.int .i64 2, .int .i64 3, .slice (some ⟨w.heap.size + 1, 0, none⟩) 10 10, .slice (some ⟨w.heap.size + 1 + 1, 0, none⟩) 3 3, .int .i64 100] 25)) w1.heap.size 25 #[.int .i64 2, .int .i64 3, .slice (some ⟨w.heap.size + 1, 0, none⟩) 10 10, .slice (some ⟨w.heap.size + 1 + 1, 0, none⟩) 3 3, .int .i64 100] := Blk.new _ _ _
  have HA := Lib.hid (hA1.keep ga)
  have g3 := hG1.t ga
  have HOP2 : Hid (∀ W, G (w1.alloc (.cells #[.int .i64 2, .int .i64 3, .slice (some ⟨w.heap.size + 1, 0, none⟩) 10 10, .slice (some ⟨w.heap.size + 1 + 1, 0, none⟩) 3 3, .int .i64 100] 25)) W → Calls Tryz.prog 23 #[.agg #[.int .i64 2, .int .i64 3, .slice (some ⟨w.heap.size + 1, 0, none⟩) 10 10, .slice (some ⟨w.heap.size + 1 + 1, 0, none⟩) 3 3, .int .i64 100], .int .i64 0] W fun e w' => ∃ g c, e = .returned (.tuple #[.slice (some ⟨g, 0, none⟩) 1 c, .int .i64 0]) ∧ G W w' ∧ g < w'.heap.size ∧ w'.cell? ⟨g, 0, none⟩ = some (.int .i64 40) ∧ w'.cell? ⟨g, 1, none⟩ = some (.int .i64 59)) := fun W hW => by
    have := HOP.out _ W (HA.out.keep hW)
    rw [exR_v] at this
    exact this
  have HST2 : Hid (∀ W, G (w1.alloc (.cells #[.int .i64 2, .int .i64 3, .slice (some ⟨w.heap.size + 1, 0, none⟩) 10 10, .slice (some ⟨w.heap.size + 1 + 1, 0, none⟩) 3 3, .int .i64 100] 25)) W → Calls Tryz.prog 11 #[.agg #[.int .i64 2, .int .i64 3, .slice (some ⟨w.heap.size + 1, 0, none⟩) 10 10, .slice (some ⟨w.heap.size + 1 + 1, 0, none⟩) 3 3, .int .i64 100]] W fun e w' => ∃ a1 c1 a2 c2, e = .returned (.tuple #[.slice a1 2 c1, .slice a2 2 c2, .int .i64 0]) ∧ G W w' ∧ IntsAt w' a1 [0, 1] ∧ IntsAt w' a2 [0, 1]) := fun W hW => by
    have := HST.out _ W (HA.out.keep hW)
    rw [exR_v] at this
    exact this
  have HMK2 : Hid (∀ W ma mc, G (w1.alloc (.cells #[.int .i64 2, .int .i64 3, .slice (some ⟨w.heap.size + 1, 0, none⟩) 10 10, .slice (some ⟨w.heap.size + 1 + 1, 0, none⟩) 3 3, .int .i64 100] 25)) W → IntsAt W ma [7, 8, 9] → Calls Tryz.prog 13 #[.agg #[.int .i64 2, .int .i64 3, .slice (some ⟨w.heap.size + 1, 0, none⟩) 10 10, .slice (some ⟨w.heap.size + 1 + 1, 0, none⟩) 3 3, .int .i64 100], .slice ma 3 mc] W fun e w' => ∃ a c, e = .returned (.tuple #[.slice a 3 c, .int .i64 0]) ∧ G W w' ∧ IntsAt w' a [0, 1, 2]) := fun W ma mc hW hm => by
    have := HMK.out _ ma mc W (HA.out.keep hW) hm
    rw [exR_v] at this
    exact this
  have HAL2 : Hid (∀ W, G (w1.alloc (.cells #[.int .i64 2, .int .i64 3, .slice (some ⟨w.heap.size + 1, 0, none⟩) 10 10, .slice (some ⟨w.heap.size + 1 + 1, 0, none⟩) 3 3, .int .i64 100] 25)) W → Calls Tryz.prog 15 #[.agg #[.int .i64 2, .int .i64 3, .slice (some ⟨w.heap.size + 1, 0, none⟩) 10 10, .slice (some ⟨w.heap.size + 1 + 1, 0, none⟩) 3 3, .int .i64 100]] W fun e w' => ∃ a c, e = .returned (.tuple #[.slice a 1 c, .int .i64 0]) ∧ G W w' ∧ IntsAt w' a [4]) := fun W hW => by
    have := HAL.out _ W (HA.out.keep hW)
    rw [exR_v] at this
    exact this
  clear HA HOP HST HMK HAL HEX ga hA1 hG1
  change Code.wp _ _ _ _ (w1.alloc (.cells #[.int .i64 2, .int .i64 3, .slice (some ⟨w.heap.size + 1, 0, none⟩) 10 10, .slice (some ⟨w.heap.size + 1 + 1, 0, none⟩) 3 3, .int .i64 100] 25))
  obtain ⟨K2, hK2⟩ : ∃ K2, K2 = w1.heap.size := ⟨_, rfl⟩
  rw [← hK2] at b2 ⊢
  clear hK2
  generalize w1.alloc (.cells #[.int .i64 2, .int .i64 3, .slice (some ⟨w.heap.size + 1, 0, none⟩) 10 10, .slice (some ⟨w.heap.size + 1 + 1, 0, none⟩) 3 3, .int .i64 100] 25) = w2 at *
  have m0 := b2.cell 0
  have m1 := b2.cell 1
  have m2 := b2.cell 2
  have m3 := b2.cell 3
  have m4 := b2.cell 4
  have l0 := b2.lt
  go_upto_region 3 with (go_at_call 23; refine (HOP2.out _ (G.rf _)).mono ?_; rintro e w3 ⟨gs, cs, rfl, hG3, hls, hs0, hs1⟩)
  replace b2 := b2.keep hG3
  clear m0 m1 m2 m3 m4 l0
  have m0 := b2.cell 0
  have m1 := b2.cell 1
  have m2 := b2.cell 2
  have m3 := b2.cell 3
  have m4 := b2.cell 4
  have l0 := b2.lt
  go_upto_region 4 with (go_at_call 11; refine (HST2.out _ hG3).mono ?_; rintro e w4 ⟨a1, c1, a2, c2, rfl, hG4, hr1, hr2⟩)
  have h4 := hG3.t hG4
  replace b2 := b2.keep hG4
  clear m0 m1 m2 m3 m4 l0
  have m0 := b2.cell 0
  have m1 := b2.cell 1
  have m2 := b2.cell 2
  have m3 := b2.cell 3
  have m4 := b2.cell 4
  have l0 := b2.lt
  go_upto_region 5 with (go_at_call 13; refine (HMK2.out _ _ _ (h4.a _) (lit3 _ 7 8 9)).mono ?_; rintro e w5 ⟨a3, c3, rfl, hG5, hr3⟩)
  have gA4 : G w4 w5 := ((G.rf w4).a (.cells #[.int .i64 7, .int .i64 8, .int .i64 9] 3)).t hG5
  have h5 := h4.t gA4
  replace b2 := b2.keep gA4
  clear m0 m1 m2 m3 m4 l0
  have m0 := b2.cell 0
  have m1 := b2.cell 1
  have m2 := b2.cell 2
  have m3 := b2.cell 3
  have m4 := b2.cell 4
  have l0 := b2.lt
  go_upto_region 6 with (go_at_call 15; refine (HAL2.out _ h5).mono ?_; rintro e w6 ⟨a4, c4, rfl, hG6, hr4⟩)
  have h6 := h5.t hG6
  have gz := g3.t h6
  have gB3 := (hG4.t gA4).t hG6
  have gB4 := gA4.t hG6
  replace hs0 := ((bcellB gB3).1 gs _ hls).trans hs0
  replace hs1 := ((bcellB gB3).1 gs _ hls).trans hs1
  replace hls := Nat.lt_of_lt_of_le hls gB3.size
  have R1 := Lib.hid (fun (W : World) (hW : G w6 W) (b : Option Addr) (d : Nat) (hb : IntsAt W b [0, 1]) => (show Calls Tryz.prog 17 #[.slice a1 2 c1, .slice b 2 d] W _ from sameI_any [0, 1] a1 b c1 d W ((hr1.below gB4).below hW) hb (by decide)))
  have R2 := Lib.hid (fun (W : World) (hW : G w6 W) (b : Option Addr) (d : Nat) (hb : IntsAt W b [0, 1]) => (show Calls Tryz.prog 17 #[.slice a2 2 c2, .slice b 2 d] W _ from sameI_any [0, 1] a2 b c2 d W ((hr2.below gB4).below hW) hb (by decide)))
  have R3 := Lib.hid (fun (W : World) (hW : G w6 W) (b : Option Addr) (d : Nat) (hb : IntsAt W b [0, 1, 2]) => (show Calls Tryz.prog 17 #[.slice a3 3 c3, .slice b 3 d] W _ from sameI_any [0, 1, 2] a3 b c3 d W ((hr3.below hG6).below hW) hb (by decide)))
  have R4 := Lib.hid (fun (W : World) (hW : G w6 W) (b : Option Addr) (d : Nat) (hb : IntsAt W b [4]) => (show Calls Tryz.prog 17 #[.slice a4 1 c4, .slice b 1 d] W _ from sameI_any [4] a4 b c4 d W (hr4.below hW) hb (by decide)))
  have heq := fun W => eq61 40 59 W
  clear hr1 hr2 hr3 hr4 HOP2 HST2 HMK2 HAL2 m0 m1 m2 m3 m4 l0 b2 g3 hG3 hG4 h4 gA4 h5 hG6 h6 gB3 gB4 hG5
  go_wp2_with (first
    | (go_at_call 17; refine (R1.out _ ((G.rf w6).a _) _ _ (lit2 _ 0 1)).mono ?_; rintro e w7 ⟨rfl, hG7⟩; have g7 := ((G.rf w6).a _).t hG7; clear hs0 hs1 hls R1)
    | (go_at_call 17; refine (R2.out _ (g7.a _) _ _ (lit2 _ 0 1)).mono ?_; rintro e w8 ⟨rfl, hG8⟩; have g8 := (g7.a _).t hG8; clear R2)
    | (go_at_call 17; refine (R3.out _ (g8.a _) _ _ (lit3 _ 0 1 2)).mono ?_; rintro e w9 ⟨rfl, hG9⟩; have g9 := (g8.a _).t hG9; clear R3)
    | (go_at_call 17; refine (R4.out _ (g9.a _) _ _ (lit1 _ 4)).mono ?_; rintro e w10 ⟨rfl, hG10⟩; have g10 := (g9.a _).t hG10))
  have gf := gz.t g10
  first | exact ⟨rfl, gf⟩ | (go_ret; exact ⟨rfl, gf⟩)
end Go.Proofs.YtabnpimidhlbiaaGreat

set_option linter.unusedSimpArgs false
set_option linter.unusedVariables false
namespace Go.Proofs.YtabnpimidhlbiaaGreat
open Go.RowKit Go.Shelf Go.Sort Go.Maps
attribute [local go_sem] Oper.semAt_some
/-- convoys that differ in the order of their acts, and in doubles -/
structure Sim (c o : Cv) : Prop where
  bks : o.bks = c.bks
  bds : o.bds = c.bds
  en : o.en = c.en
  du : o.duties = c.duties
  ac : ∀ x, x ∈ c.acts ↔ x ∈ o.acts
  nn : o.acts.length ≤ 40
theorem folE_zero {c : Cv} (h : folE c = 0) : vcB c = true ∧ ∃ k, folJ c = some k := by
  unfold folE at h
  by_cases hv : vcB c = true
  · rw [if_pos hv] at h
    by_cases hs : (folJ c).isSome = true
    · exact ⟨hv, Option.isSome_iff_exists.1 hs⟩
    · rw [if_neg hs] at h; omega
  · rw [if_neg hv] at h; omega
end Go.Proofs.YtabnpimidhlbiaaGreat

set_option linter.unusedSimpArgs false
set_option linter.unusedVariables false
namespace Go.Proofs.YtabnpimidhlbiaaGreat
open Go.RowKit Go.Shelf Go.Sort
attribute [local go_sem] Oper.semAt_some
/-- the answers -/
def opnT (k : Jn) (q bk : Int) : List (Int × Int) := if q = 0 then opnL k.ps bk else []
def insT (k : Jn) (q mi bk : Int) (N : Nat) : List Int := if q = 0 then insL k.past mi bk N else []
def aloT (k : Jn) (ds : List Du) : List Int := if brk k.ps = [] then [] else aloL ds k.ps
def aloE (k : Jn) : Int := if brk k.ps = [] then 3 else 0
theorem opn_k {c : Cv} {k : Jn} (hk : folJ c = some k) (bk q : Int) (hq : qErr c (upB bk (c.bks - 1)) = q) (w : World) (h : c.At w) : Calls Tryz.prog 23 #[.agg c.v, .int .i64 bk] w fun e w' => ∃ a cap, e = .returned (.tuple #[.slice a (opnT k q bk).length cap, .int .i64 q]) ∧ SpAt w' a (opnT k q bk) ∧ G w w' := by
  subst hq
  refine (Openings_any c bk w h).mono ?_
  rintro e w' ⟨v, l, rfl, hown, hG, h0, h1⟩
  have el : l = opnT k (qErr c (upB bk (c.bks - 1))) bk := by
    unfold opnT
    by_cases hz : qErr c (upB bk (c.bks - 1)) = 0
    · rw [if_pos hz]; exact h1 hz k hk
    · rw [if_neg hz]; exact h0 hz
  rw [← el]
  obtain ⟨a, cap, rfl, r⟩ := own_sp hown
  exact ⟨a, cap, rfl, r, hG⟩
theorem ins_k {c : Cv} {k : Jn} (hk : folJ c = some k) (mi bk q : Int) (N : Nat) (hN : c.bds.toNat = N) (hq : qErr c (upB mi 9999 && upB bk (c.bks - 1)) = q) (w : World) (h : c.At w) : Calls Tryz.prog 24 #[.agg c.v, .int .i64 mi, .int .i64 bk] w fun e w' => ∃ a cap, e = .returned (.tuple #[.slice a (insT k q mi bk N).length cap, .int .i64 q]) ∧ IntsAt w' a (insT k q mi bk N) ∧ G w w' := by
  subst hq hN
  refine (Inside_any c mi bk w h).mono ?_
  rintro e w' ⟨v, l, rfl, hown, hG, h0, h1⟩
  have el : l = insT k (qErr c (upB mi 9999 && upB bk (c.bks - 1))) mi bk c.bds.toNat := by
    unfold insT
    by_cases hz : qErr c (upB mi 9999 && upB bk (c.bks - 1)) = 0
    · rw [if_pos hz]; exact h1 hz k hk
    · rw [if_neg hz]; exact h0 hz
  rw [← el]
  obtain ⟨a, cap, rfl, r⟩ := own_ints hown
  exact ⟨a, cap, rfl, r, hG⟩
theorem alo_k {c : Cv} {k : Jn} (hk : folJ c = some k) (w : World) (h : c.At w) : Calls Tryz.prog 15 #[.agg c.v] w fun e w' => ∃ a cap, e = .returned (.tuple #[.slice a (aloT k c.duties).length cap, .int .i64 (aloE k)]) ∧ IntsAt w' a (aloT k c.duties) ∧ G w w' := by
  refine (Alone_any c w h).mono ?_
  rintro e w' ⟨v, l, er, rfl, hown, hG, _, h1⟩
  obtain ⟨e1, e2⟩ := h1 k hk
  have el : l = aloT k c.duties ∧ er = aloE k := by
    unfold aloT aloE
    by_cases hz : brk k.ps = []
    · rw [if_pos hz, if_pos hz]; exact e1 hz
    · rw [if_neg hz, if_neg hz]; exact e2 hz
  rw [← el.1, ← el.2]
  obtain ⟨a, cap, rfl, r⟩ := own_ints hown
  exact ⟨a, cap, rfl, r, hG⟩
theorem insT_len (k : Jn) (q mi bk : Int) {N : Nat} (hN : N ≤ 12) : (insT k q mi bk N).length ≤ 1000 := by
  unfold insT
  split
  · exact Nat.le_trans (numL_len _ _) (by omega)
  · exact Nat.zero_le _
end Go.Proofs.YtabnpimidhlbiaaGreat

set_option linter.unusedSimpArgs false
set_option linter.unusedVariables false
namespace Go.Proofs.YtabnpimidhlbiaaGreat
open Go.RowKit Go.Shelf Go.Sort
attribute [local go_sem] Oper.semAt_some
/-- what Where answers -/
def WhePost (c : Cv) (mi bd : Int) (w : World) (e : Ending) (w' : World) : Prop :=
  ∃ r, e = .returned (.tuple #[.int .i64 r, .int .i64 (qErr c (upB mi 9999 && upB bd (c.bds - 1)))]) ∧ G w w' ∧ (qErr c (upB mi 9999 && upB bd (c.bds - 1)) ≠ 0 → r = 0) ∧ (qErr c (upB mi 9999 && upB bd (c.bds - 1)) = 0 → ∀ k, folJ c = some k → r = whr k.past mi bd)
set_option maxRecDepth 100000 in
set_option maxHeartbeats 8000000 in
theorem Where_any (c : Cv) (mi bd : Int) (w : World) (h : c.At w) : Calls Tryz.prog 29 #[.agg c.v, .int .i64 mi, .int .i64 bd] w (WhePost c mi bd w) := by
  have HMI := Lib.hid (fun (W : World) => minute_any mi W)
  have HBA := Lib.hid (fun (W : World) => bird_any c bd W h.b2)
  have HQU := Lib.hid (fun (d : Bool) (W : World) (hW : G w W) => question_any c d W (h.keep hW))
  obtain ⟨QE, hQE⟩ : ∃ QE, QE = qErr c (upB mi 9999 && upB bd (c.bds - 1)) := ⟨_, rfl⟩
  have HP1 : Hid (QE ≠ 0 → ∀ w', G w w' → WhePost c mi bd w (.returned (.tuple #[.int .i64 0, .int .i64 QE])) w') := fun h1 w' hG =>
    ⟨0, by rw [hQE], hG, fun _ => rfl, fun e => absurd (hQE.trans e) h1⟩
  have HP2 : Hid (QE = 0 → ∀ k, folJ c = some k → ∀ w', G w w' → WhePost c mi bd w (.returned (.tuple #[.int .i64 (whr k.past mi bd), .int .i64 0])) w') := fun h1 k hk w' hG =>
    ⟨_, by rw [← hQE, h1], hG, fun e => absurd (hQE.symm.trans h1) e, fun _ k2 hk2 => by
      have e2 := hk.symm.trans hk2
      cases e2
      rfl⟩
  generalize WhePost c mi bd w = PP at *
  clear h
  obtain ⟨M, hM⟩ : ∃ M, M = upB mi 9999 := ⟨_, rfl⟩
  obtain ⟨K, hK⟩ : ∃ K, K = upB bd (c.bds - 1) := ⟨_, rfl⟩
  rw [← hM] at HMI hQE
  rw [← hK] at HBA hQE
  clear hM hK
  have HQU2 := Lib.hid (fun (W : World) (hW : G w W) => HQU.out (M && K) W hW)
  unfold QuPost at HQU2
  rw [← hQE] at HQU2
  clear hQE HQU
  obtain ⟨CC, hCC⟩ : ∃ CC, CC = c := ⟨_, rfl⟩
  rw [← hCC] at HP2
  have HCC := Lib.hid hCC
  clear hCC
  obtain ⟨cbks, cbds, caa, cac, cacts, cda, cdc, cduties, cen⟩ := c
  unfold Cv.v at *
  dsimp only at *
  have g0 : G w (w.alloc (.cells #[.int .i64 cbks, .int .i64 cbds, .slice caa cacts.length cac, .slice cda cduties.length cdc, .int .i64 cen] 25)) := (G.rf _).a _
  have b0 : Blk (w.alloc (.cells #[.int .i64 cbks, .int .i64 cbds, .slice caa cacts.length cac, .slice cda cduties.length cdc, .int .i64 cen] 25)) w.heap.size 25 #[.int .i64 cbks, .int .i64 cbds, .slice caa cacts.length cac, .slice cda cduties.length cdc, .int .i64 cen] := Blk.new _ _ _
  go_enter Tryz.func29, Tryz.ntmps29
  go_upto_region 1 with fail
  change Code.wp _ _ _ _ (w.alloc (.cells #[.int .i64 cbks, .int .i64 cbds, .slice caa cacts.length cac, .slice cda cduties.length cdc, .int .i64 cen] 25))
  generalize w.alloc (.cells #[.int .i64 cbks, .int .i64 cbds, .slice caa cacts.length cac, .slice cda cduties.length cdc, .int .i64 cen] 25) = W0 at *
  refine wp_region_Y (S := fun W' => G W0 W') 13 14 rfl (by kernel_rfl) ((G.rf W0).d) (fun hS => ?_)
  have gg : G W0 W0.drew := (G.rf W0).d
  generalize W0.drew = WD at *
  cases M
  · refine wpAnyY_take (i := 0) (v := ?_) rfl (by kernel_rfl) (by kernel_rfl) (by kernel_rfl) (by kernel_rfl) (fun _ _ _ h => h) (Or.inl ⟨by kernel_rfl, ?_⟩) hS ?_
    rotate_left
    · intro w' hSw; have c0 := (b0.keep hSw).cell 0; have c1 := (b0.keep hSw).cell 1; have c2 := (b0.keep hSw).cell 2; have c3 := (b0.keep hSw).cell 3; have c4 := (b0.keep hSw).cell 4; have l0 := (b0.keep hSw).lt; go_simp; with_reducible rfl
    try simp only [Act.put, zzA, zzB, zzC, zzD, zzE, zzF]
    refine wpAnyY_take (i := 1) (v := ?_) rfl (by kernel_rfl) (by kernel_rfl) (by kernel_rfl) (by kernel_rfl) (fun _ _ _ h => h) (Or.inl ⟨by kernel_rfl, ?_⟩) hS ?_
    rotate_left
    · intro w' hSw; go_simp; with_reducible rfl
    try simp only [Act.put, zzA, zzB, zzC, zzD, zzE, zzF]
    refine wpAnyY_oneSW (i := 2) (by kernel_rfl) rfl (by kernel_rfl) (fun K2 hK2 => ?_)
    go_simp
    refine (HMI.out _).mono ?_
    rintro e w2 ⟨rfl, hGc⟩
    refine hK2.out _ _ (gg.t hGc) (fun hS => ?_)
    replace gg := gg.t hGc
    clear hK2 hGc
    try simp only [Act.put, zzA, zzB, zzC, zzD, zzE, zzF]
    refine wpAnyY_take (i := 3) (v := ?_) rfl (by kernel_rfl) (by kernel_rfl) (by kernel_rfl) (by kernel_rfl) (fun _ _ _ h => h) (Or.inl ⟨by kernel_rfl, ?_⟩) hS ?_
    rotate_left
    · intro w' hSw; go_simp; with_reducible rfl
    try simp only [Act.put, zzA, zzB, zzC, zzD, zzE, zzF]
    refine wpAnyY_take (i := 4) (v := undef) rfl (by kernel_rfl) (by kernel_rfl) (by kernel_rfl) (by kernel_rfl) (fun _ _ _ h => h) (Or.inr ⟨by kernel_rfl, rfl⟩) hS ?_
    try simp only [Act.put, zzA, zzB, zzC, zzD, zzE, zzF]
    refine wpAnyY_take (i := 5) (v := undef) rfl (by kernel_rfl) (by kernel_rfl) (by kernel_rfl) (by kernel_rfl) (fun _ _ _ h => h) (Or.inr ⟨by kernel_rfl, rfl⟩) hS ?_
    try simp only [Act.put, zzA, zzB, zzC, zzD, zzE, zzF]
    refine wpAnyY_take (i := 6) (v := undef) rfl (by kernel_rfl) (by kernel_rfl) (by kernel_rfl) (by kernel_rfl) (fun _ _ _ h => h) (Or.inr ⟨by kernel_rfl, rfl⟩) hS ?_
    try simp only [Act.put, zzA, zzB, zzC, zzD, zzE, zzF]
    refine wpAnyY_take (i := 7) (v := ?_) rfl (by kernel_rfl) (by kernel_rfl) (by kernel_rfl) (by kernel_rfl) (fun _ _ _ h => h) (Or.inl ⟨by kernel_rfl, ?_⟩) hS ?_
    rotate_left
    · intro w' hSw; go_simp; with_reducible rfl
    try simp only [Act.put, zzA, zzB, zzC, zzD, zzE, zzF]
    refine wpAnyY_oneSW (i := 8) (by kernel_rfl) rfl (by kernel_rfl) (fun K8 hK8 => ?_)
    go_simp
    refine (HQU2.out _ (g0.t gg)).mono ?_
    rintro e w8 ⟨hGc, ⟨hne, rfl⟩ | ⟨hq0, hd, k, J, m, P, pa, pc, qa, qc, hk, rfl, hF⟩⟩
    · have HZ := Lib.hid (fun (W : World) (hW : G w W) => HP1.out hne W hW)
      have hneb : ¬ QE = 0 := hne
      clear hne
      refine hK8.out _ _ (gg.t hGc) (fun hS => ?_)
      replace gg := gg.t hGc
      clear hK8 hGc
      try simp only [Act.put, zzA, zzB, zzC, zzD, zzE, zzF]
      refine wpAnyY_take (i := 9) (v := ?_) rfl (by kernel_rfl) (by kernel_rfl) (by kernel_rfl) (by kernel_rfl) (fun _ _ _ h => h) (Or.inl ⟨by kernel_rfl, ?_⟩) hS ?_
      rotate_left
      · intro w' hSw; go_simp; with_reducible rfl
      try simp only [Act.put, zzA, zzB, zzC, zzD, zzE, zzF]
      refine wpAnyY_take (i := 10) (v := ?_) rfl (by kernel_rfl) (by kernel_rfl) (by kernel_rfl) (by kernel_rfl) (fun _ _ _ h => h) (Or.inl ⟨by kernel_rfl, ?_⟩) hS ?_
      rotate_left
      · intro w' hSw; go_simp; with_reducible rfl
      try simp only [Act.put, zzA, zzB, zzC, zzD, zzE, zzF]
      refine wpAnyY_take (i := 11) (v := ?_) rfl (by kernel_rfl) (by kernel_rfl) (by kernel_rfl) (by kernel_rfl) (fun _ _ _ h => h) (Or.inl ⟨by kernel_rfl, ?_⟩) hS ?_
      rotate_left
      · intro w' hSw; go_simp; with_reducible rfl
      try simp only [Act.put, zzA, zzB, zzC, zzD, zzE, zzF]
      refine wpAnyY_take (i := 12) (v := ?_) rfl (by kernel_rfl) (by kernel_rfl) (by kernel_rfl) (by kernel_rfl) (fun _ _ _ h => h) (Or.inl ⟨by kernel_rfl, ?_⟩) hS ?_
      rotate_left
      · intro w' hSw; go_simp; with_reducible rfl
      try simp only [Act.put, zzA, zzB, zzC, zzD, zzE, zzF]
      refine wpAnyY_oneW (i := 13) (by kernel_rfl) rfl (by kernel_rfl) (by kernel_rfl) (fun K13 hK13 => ?_)
      go_simp
      refine hK13.out _ _ ?_
      clear hK13
      try simp only [Act.put, zzA, zzB, zzC, zzD, zzE, zzF]
      refine wpAnyY_done (by kernel_rfl) ?_ _
      have HZ2 := Lib.hid (HZ.out _ (g0.t gg))
      clear HZ HP1 HP2 HQU2 HMI HBA gg hS
      go_wp2_with fail
      first | exact HZ2.out | (go_ret; exact HZ2.out)
    · rw [← HCC.out] at hk hF
      have HF := Lib.hid hF
      have HZ := Lib.hid (HP2.out hq0 k hk)
      clear hk hF hd hq0
      refine hK8.out _ _ (gg.t hGc) (fun hS => ?_)
      replace gg := gg.t hGc
      clear hK8 hGc
      try simp only [Act.put, zzA, zzB, zzC, zzD, zzE, zzF]
      refine wpAnyY_take (i := 9) (v := ?_) rfl (by kernel_rfl) (by kernel_rfl) (by kernel_rfl) (by kernel_rfl) (fun _ _ _ h => h) (Or.inl ⟨by kernel_rfl, ?_⟩) hS ?_
      rotate_left
      · intro w' hSw; go_simp; with_reducible rfl
      try simp only [Act.put, zzA, zzB, zzC, zzD, zzE, zzF]
      refine wpAnyY_take (i := 10) (v := ?_) rfl (by kernel_rfl) (by kernel_rfl) (by kernel_rfl) (by kernel_rfl) (fun _ _ _ h => h) (Or.inl ⟨by kernel_rfl, ?_⟩) hS ?_
      rotate_left
      · intro w' hSw; go_simp; with_reducible rfl
      try simp only [Act.put, zzA, zzB, zzC, zzD, zzE, zzF]
      refine wpAnyY_take (i := 11) (v := ?_) rfl (by kernel_rfl) (by kernel_rfl) (by kernel_rfl) (by kernel_rfl) (fun _ _ _ h => h) (Or.inl ⟨by kernel_rfl, ?_⟩) hS ?_
      rotate_left
      · intro w' hSw; go_simp; with_reducible rfl
      try simp only [Act.put, zzA, zzB, zzC, zzD, zzE, zzF]
      refine wpAnyY_take (i := 12) (v := ?_) rfl (by kernel_rfl) (by kernel_rfl) (by kernel_rfl) (by kernel_rfl) (fun _ _ _ h => h) (Or.inl ⟨by kernel_rfl, ?_⟩) hS ?_
      rotate_left
      · intro w' hSw; go_simp; with_reducible rfl
      try simp only [Act.put, zzA, zzB, zzC, zzD, zzE, zzF]
      refine wpAnyY_oneW (i := 13) (by kernel_rfl) rfl (by kernel_rfl) (by kernel_rfl) (fun K13 hK13 => ?_)
      go_simp
      refine hK13.out _ _ ?_
      clear hK13
      try simp only [Act.put, zzA, zzB, zzC, zzD, zzE, zzF]
      refine wpAnyY_done (by kernel_rfl) ?_ _
      have HWH := Lib.hid (where_any k.past pa pc J mi bd _ HF.out.jt.c5 HF.out.jt.lt HF.out.jt.ra HF.out.jt.na)
      have g9 := g0.t gg
      clear HP1 HP2 HQU2 HMI HBA gg hS HF
      go_wp2_with (go_at_call 60; refine HWH.out.mono ?_; rintro e w9 ⟨rfl, hG9⟩)
      have HZ2 := Lib.hid (HZ.out _ (g9.t hG9))
      first | exact HZ2.out | (go_ret; exact HZ2.out)
  · refine wpAnyY_take (i := 0) (v := ?_) rfl (by kernel_rfl) (by kernel_rfl) (by kernel_rfl) (by kernel_rfl) (fun _ _ _ h => h) (Or.inl ⟨by kernel_rfl, ?_⟩) hS ?_
    rotate_left
    · intro w' hSw; have c0 := (b0.keep hSw).cell 0; have c1 := (b0.keep hSw).cell 1; have c2 := (b0.keep hSw).cell 2; have c3 := (b0.keep hSw).cell 3; have c4 := (b0.keep hSw).cell 4; have l0 := (b0.keep hSw).lt; go_simp; with_reducible rfl
    try simp only [Act.put, zzA, zzB, zzC, zzD, zzE, zzF]
    refine wpAnyY_take (i := 1) (v := ?_) rfl (by kernel_rfl) (by kernel_rfl) (by kernel_rfl) (by kernel_rfl) (fun _ _ _ h => h) (Or.inl ⟨by kernel_rfl, ?_⟩) hS ?_
    rotate_left
    · intro w' hSw; go_simp; with_reducible rfl
    try simp only [Act.put, zzA, zzB, zzC, zzD, zzE, zzF]
    refine wpAnyY_oneSW (i := 2) (by kernel_rfl) rfl (by kernel_rfl) (fun K2 hK2 => ?_)
    go_simp
    refine (HMI.out _).mono ?_
    rintro e w2 ⟨rfl, hGc⟩
    refine hK2.out _ _ (gg.t hGc) (fun hS => ?_)
    replace gg := gg.t hGc
    clear hK2 hGc
    try simp only [Act.put, zzA, zzB, zzC, zzD, zzE, zzF]
    refine wpAnyY_take (i := 3) (v := ?_) rfl (by kernel_rfl) (by kernel_rfl) (by kernel_rfl) (by kernel_rfl) (fun _ _ _ h => h) (Or.inl ⟨by kernel_rfl, ?_⟩) hS ?_
    rotate_left
    · intro w' hSw; go_simp; with_reducible rfl
    try simp only [Act.put, zzA, zzB, zzC, zzD, zzE, zzF]
    refine wpAnyY_take (i := 4) (v := ?_) rfl (by kernel_rfl) (by kernel_rfl) (by kernel_rfl) (by kernel_rfl) (fun _ _ _ h => h) (Or.inl ⟨by kernel_rfl, ?_⟩) hS ?_
    rotate_left
    · intro w' hSw; have c0 := (b0.keep hSw).cell 0; have c1 := (b0.keep hSw).cell 1; have c2 := (b0.keep hSw).cell 2; have c3 := (b0.keep hSw).cell 3; have c4 := (b0.keep hSw).cell 4; have l0 := (b0.keep hSw).lt; go_simp; with_reducible rfl
    try simp only [Act.put, zzA, zzB, zzC, zzD, zzE, zzF]
    refine wpAnyY_take (i := 5) (v := ?_) rfl (by kernel_rfl) (by kernel_rfl) (by kernel_rfl) (by kernel_rfl) (fun _ _ _ h => h) (Or.inl ⟨by kernel_rfl, ?_⟩) hS ?_
    rotate_left
    · intro w' hSw; go_simp; with_reducible rfl
    try simp only [Act.put, zzA, zzB, zzC, zzD, zzE, zzF]
    refine wpAnyY_oneSW (i := 6) (by kernel_rfl) rfl (by kernel_rfl) (fun K6 hK6 => ?_)
    go_simp
    refine (HBA.out _).mono ?_
    rintro e w6 ⟨rfl, hGc⟩
    refine hK6.out _ _ (gg.t hGc) (fun hS => ?_)
    replace gg := gg.t hGc
    clear hK6 hGc
    try simp only [Act.put, zzA, zzB, zzC, zzD, zzE, zzF]
    refine wpAnyY_take (i := 7) (v := ?_) rfl (by kernel_rfl) (by kernel_rfl) (by kernel_rfl) (by kernel_rfl) (fun _ _ _ h => h) (Or.inl ⟨by kernel_rfl, ?_⟩) hS ?_
    rotate_left
    · intro w' hSw; go_simp; with_reducible rfl
    try simp only [Act.put, zzA, zzB, zzC, zzD, zzE, zzF]
    refine wpAnyY_oneSW (i := 8) (by kernel_rfl) rfl (by kernel_rfl) (fun K8 hK8 => ?_)
    go_simp
    refine (HQU2.out _ (g0.t gg)).mono ?_
    rintro e w8 ⟨hGc, ⟨hne, rfl⟩ | ⟨hq0, hd, k, J, m, P, pa, pc, qa, qc, hk, rfl, hF⟩⟩
    · have HZ := Lib.hid (fun (W : World) (hW : G w W) => HP1.out hne W hW)
      have hneb : ¬ QE = 0 := hne
      clear hne
      refine hK8.out _ _ (gg.t hGc) (fun hS => ?_)
      replace gg := gg.t hGc
      clear hK8 hGc
      try simp only [Act.put, zzA, zzB, zzC, zzD, zzE, zzF]
      refine wpAnyY_take (i := 9) (v := ?_) rfl (by kernel_rfl) (by kernel_rfl) (by kernel_rfl) (by kernel_rfl) (fun _ _ _ h => h) (Or.inl ⟨by kernel_rfl, ?_⟩) hS ?_
      rotate_left
      · intro w' hSw; go_simp; with_reducible rfl
      try simp only [Act.put, zzA, zzB, zzC, zzD, zzE, zzF]
      refine wpAnyY_take (i := 10) (v := ?_) rfl (by kernel_rfl) (by kernel_rfl) (by kernel_rfl) (by kernel_rfl) (fun _ _ _ h => h) (Or.inl ⟨by kernel_rfl, ?_⟩) hS ?_
      rotate_left
      · intro w' hSw; go_simp; with_reducible rfl
      try simp only [Act.put, zzA, zzB, zzC, zzD, zzE, zzF]
      refine wpAnyY_take (i := 11) (v := ?_) rfl (by kernel_rfl) (by kernel_rfl) (by kernel_rfl) (by kernel_rfl) (fun _ _ _ h => h) (Or.inl ⟨by kernel_rfl, ?_⟩) hS ?_
      rotate_left
      · intro w' hSw; go_simp; with_reducible rfl
      try simp only [Act.put, zzA, zzB, zzC, zzD, zzE, zzF]
      refine wpAnyY_take (i := 12) (v := ?_) rfl (by kernel_rfl) (by kernel_rfl) (by kernel_rfl) (by kernel_rfl) (fun _ _ _ h => h) (Or.inl ⟨by kernel_rfl, ?_⟩) hS ?_
      rotate_left
      · intro w' hSw; go_simp; with_reducible rfl
      try simp only [Act.put, zzA, zzB, zzC, zzD, zzE, zzF]
      refine wpAnyY_oneW (i := 13) (by kernel_rfl) rfl (by kernel_rfl) (by kernel_rfl) (fun K13 hK13 => ?_)
      go_simp
      refine hK13.out _ _ ?_
      clear hK13
      try simp only [Act.put, zzA, zzB, zzC, zzD, zzE, zzF]
      refine wpAnyY_done (by kernel_rfl) ?_ _
      have HZ2 := Lib.hid (HZ.out _ (g0.t gg))
      clear HZ HP1 HP2 HQU2 HMI HBA gg hS
      go_wp2_with fail
      first | exact HZ2.out | (go_ret; exact HZ2.out)
    · rw [← HCC.out] at hk hF
      have HF := Lib.hid hF
      have HZ := Lib.hid (HP2.out hq0 k hk)
      clear hk hF hd hq0
      refine hK8.out _ _ (gg.t hGc) (fun hS => ?_)
      replace gg := gg.t hGc
      clear hK8 hGc
      try simp only [Act.put, zzA, zzB, zzC, zzD, zzE, zzF]
      refine wpAnyY_take (i := 9) (v := ?_) rfl (by kernel_rfl) (by kernel_rfl) (by kernel_rfl) (by kernel_rfl) (fun _ _ _ h => h) (Or.inl ⟨by kernel_rfl, ?_⟩) hS ?_
      rotate_left
      · intro w' hSw; go_simp; with_reducible rfl
      try simp only [Act.put, zzA, zzB, zzC, zzD, zzE, zzF]
      refine wpAnyY_take (i := 10) (v := ?_) rfl (by kernel_rfl) (by kernel_rfl) (by kernel_rfl) (by kernel_rfl) (fun _ _ _ h => h) (Or.inl ⟨by kernel_rfl, ?_⟩) hS ?_
      rotate_left
      · intro w' hSw; go_simp; with_reducible rfl
      try simp only [Act.put, zzA, zzB, zzC, zzD, zzE, zzF]
      refine wpAnyY_take (i := 11) (v := ?_) rfl (by kernel_rfl) (by kernel_rfl) (by kernel_rfl) (by kernel_rfl) (fun _ _ _ h => h) (Or.inl ⟨by kernel_rfl, ?_⟩) hS ?_
      rotate_left
      · intro w' hSw; go_simp; with_reducible rfl
      try simp only [Act.put, zzA, zzB, zzC, zzD, zzE, zzF]
      refine wpAnyY_take (i := 12) (v := ?_) rfl (by kernel_rfl) (by kernel_rfl) (by kernel_rfl) (by kernel_rfl) (fun _ _ _ h => h) (Or.inl ⟨by kernel_rfl, ?_⟩) hS ?_
      rotate_left
      · intro w' hSw; go_simp; with_reducible rfl
      try simp only [Act.put, zzA, zzB, zzC, zzD, zzE, zzF]
      refine wpAnyY_oneW (i := 13) (by kernel_rfl) rfl (by kernel_rfl) (by kernel_rfl) (fun K13 hK13 => ?_)
      go_simp
      refine hK13.out _ _ ?_
      clear hK13
      try simp only [Act.put, zzA, zzB, zzC, zzD, zzE, zzF]
      refine wpAnyY_done (by kernel_rfl) ?_ _
      have HWH := Lib.hid (where_any k.past pa pc J mi bd _ HF.out.jt.c5 HF.out.jt.lt HF.out.jt.ra HF.out.jt.na)
      have g9 := g0.t gg
      clear HP1 HP2 HQU2 HMI HBA gg hS HF
      go_wp2_with (go_at_call 60; refine HWH.out.mono ?_; rintro e w9 ⟨rfl, hG9⟩)
      have HZ2 := Lib.hid (HZ.out _ (g9.t hG9))
      first | exact HZ2.out | (go_ret; exact HZ2.out)
/-- is a basket broken? -/
def broB (qs : List Pe) (b : Int) : Bool := anyU (fun i => (qs.getD i default).bk == b) qs.length
def broL (qs : List Pe) (N : Nat) : List Int := numL (fun b => broB qs (b : Int)) N
theorem bro2_any (p : Pe) (PK BB : Nat) (b : Int) (w : World) (hP : Blk w PK 100 p.v) (hB : Blk w BB 3 #[.int .i64 b]) : Calls Tryz.prog 55 #[.pointer (some ⟨PK, 0, none⟩), .pointer (some ⟨BB, 0, none⟩)] w fun e w' => e = .returned (.bool (p.bk == b)) ∧ G w w' := by
  obtain ⟨xbk, xsl, xfr, xwh, xen, xbr⟩ := p
  unfold Pe.v at hP
  dsimp only at *
  go_enter Tryz.func55, Tryz.ntmps55
  go_upto_region 1 with fail
  refine wp_region_Y (S := fun W' => G w W') 6 7 rfl (by kernel_rfl) ((G.rf w).d) (fun hS => ?_)
  have gg : G w w.drew := (G.rf w).d
  generalize w.drew = WD at *
  refine wpAnyY_take (i := 0) (v := ?_) rfl (by kernel_rfl) (by kernel_rfl) (by kernel_rfl) (by kernel_rfl) (fun _ _ _ h => h) (Or.inl ⟨by kernel_rfl, ?_⟩) hS ?_
  rotate_left
  · intro w' hSw; have p0 := (hP.keep hSw).cell 0; have pl := (hP.keep hSw).lt; have q0 := (hB.keep hSw).cell 0; have ql := (hB.keep hSw).lt; go_simp; with_reducible rfl
  try simp only [Act.put, zzA, zzB, zzC, zzD, zzE, zzF]
  refine wpAnyY_take (i := 1) (v := ?_) rfl (by kernel_rfl) (by kernel_rfl) (by kernel_rfl) (by kernel_rfl) (fun _ _ _ h => h) (Or.inl ⟨by kernel_rfl, ?_⟩) hS ?_
  rotate_left
  · intro w' hSw; have p0 := (hP.keep hSw).cell 0; have pl := (hP.keep hSw).lt; have q0 := (hB.keep hSw).cell 0; have ql := (hB.keep hSw).lt; go_simp; with_reducible rfl
  try simp only [Act.put, zzA, zzB, zzC, zzD, zzE, zzF]
  refine wpAnyY_take (i := 2) (v := ?_) rfl (by kernel_rfl) (by kernel_rfl) (by kernel_rfl) (by kernel_rfl) (fun _ _ _ h => h) (Or.inl ⟨by kernel_rfl, ?_⟩) hS ?_
  rotate_left
  · intro w' hSw; have p0 := (hP.keep hSw).cell 0; have pl := (hP.keep hSw).lt; have q0 := (hB.keep hSw).cell 0; have ql := (hB.keep hSw).lt; go_simp; with_reducible rfl
  try simp only [Act.put, zzA, zzB, zzC, zzD, zzE, zzF]
  refine wpAnyY_take (i := 3) (v := ?_) rfl (by kernel_rfl) (by kernel_rfl) (by kernel_rfl) (by kernel_rfl) (fun _ _ _ h => h) (Or.inl ⟨by kernel_rfl, ?_⟩) hS ?_
  rotate_left
  · intro w' hSw; have p0 := (hP.keep hSw).cell 0; have pl := (hP.keep hSw).lt; have q0 := (hB.keep hSw).cell 0; have ql := (hB.keep hSw).lt; go_simp; with_reducible rfl
  try simp only [Act.put, zzA, zzB, zzC, zzD, zzE, zzF]
  refine wpAnyY_take (i := 4) (v := ?_) rfl (by kernel_rfl) (by kernel_rfl) (by kernel_rfl) (by kernel_rfl) (fun _ _ _ h => h) (Or.inl ⟨by kernel_rfl, ?_⟩) hS ?_
  rotate_left
  · intro w' hSw; have p0 := (hP.keep hSw).cell 0; have pl := (hP.keep hSw).lt; have q0 := (hB.keep hSw).cell 0; have ql := (hB.keep hSw).lt; go_simp; with_reducible rfl
  try simp only [Act.put, zzA, zzB, zzC, zzD, zzE, zzF]
  refine wpAnyY_take (i := 5) (v := ?_) rfl (by kernel_rfl) (by kernel_rfl) (by kernel_rfl) (by kernel_rfl) (fun _ _ _ h => h) (Or.inl ⟨by kernel_rfl, ?_⟩) hS ?_
  rotate_left
  · intro w' hSw; have p0 := (hP.keep hSw).cell 0; have pl := (hP.keep hSw).lt; have q0 := (hB.keep hSw).cell 0; have ql := (hB.keep hSw).lt; go_simp; with_reducible rfl
  try simp only [Act.put, zzA, zzB, zzC, zzD, zzE, zzF]
  refine wpAnyY_oneW (i := 6) (by kernel_rfl) rfl (by kernel_rfl) (by kernel_rfl) (fun K6 hK6 => ?_)
  go_simp
  refine hK6.out _ _ ?_
  clear hK6
  try simp only [Act.put, zzA, zzB, zzC, zzD, zzE, zzF]
  refine wpAnyY_done (by kernel_rfl) ?_ _
  go_wp2_with fail
  first | exact ⟨rfl, gg⟩ | (go_ret; exact ⟨rfl, gg⟩) | (go_ret; exact ⟨by congr 2; (try (cases hx : decide (xbk = b) <;> simp_all)), gg⟩)
theorem bro1_any {J : Nat} {past : List Ac} {ps : List Pe} {P : Nat → Nat} {pa : Option Addr} {pc : Nat} {qa : Option Addr} {qc : Nat} (b : Int) (JB : Nat) (w : World) (h : JAt w J past ps P pa pc qa qc) (hJB : Blk w JB 71 #[.pointer (some ⟨J, 0, none⟩)]) :
    Calls Tryz.prog 53 #[.int .i64 b, .pointer (some ⟨JB, 0, none⟩)] w fun e w' => e = .returned (.bool (broB (brk ps) b)) ∧ G w w' := by
  have g0 : G w (w.alloc (.cells #[.int .i64 b] 3)) := (G.rf _).a _
  have bB : Blk (w.alloc (.cells #[.int .i64 b] 3)) w.heap.size 3 #[.int .i64 b] := Blk.new _ _ _
  have HBR := Lib.hid (fun (W : World) (hW : G w W) => broken_any W (h.keep hW))
  have hbn : (brk ps).length ≤ 1000 := by rw [brk_len]; exact Nat.le_trans (brkI_len _) h.np
  have HC := Lib.hid (fun (W : World) (hW : G (w.alloc (.cells #[.int .i64 b] 3)) W) (ba : Option Addr) (bc : Nat) (P' : Nat → Nat) (hq : PsAt W ba (brk ps) P') => CtPe_any 55 (enters_of Tryz.func55 (by kernel_rfl) rfl) #[.pointer (some ⟨w.heap.size, 0, none⟩)] W ba bc (brk ps).length P' (fun i => ((brk ps).getD i default).bk == b) hbn hq.ptr (fun W' hW' i hi => bro2_any ((brk ps).getD i default) (P' i) w.heap.size b W' ((hq.blk i hi).keep hW') (bB.keep (hW.t hW'))))
  have m0 := (hJB.keep g0).cell 0
  have l0 := (hJB.keep g0).lt
  have HBB : Hid (broB (brk ps) b = anyU (fun i => ((brk ps).getD i default).bk == b) (brk ps).length) := rfl
  rw [HBB.out]
  clear hJB h bB hbn HBB
  unfold BrkPost at HBR
  generalize anyU (fun i => ((brk ps).getD i default).bk == b) (brk ps).length = R at *
  generalize brk ps = QS at *
  go_enter Tryz.func53, Tryz.ntmps53
  go_wp2_with (first | (go_at_call 34; refine (HBR.out _ g0).mono ?_; rintro e w1 ⟨ba, bc, P', rfl, hq, hG1⟩; have hc1 := HC.out w1 hG1 ba bc P' hq; clear HC HBR hq) | (go_at_call 54; refine hc1.mono ?_; rintro e w2 ⟨rfl, hG2⟩))
  first | exact ⟨rfl, (g0.t hG1).t hG2⟩ | (go_ret; exact ⟨rfl, (g0.t hG1).t hG2⟩)
/-- what Broken answers -/
def BroPost (c : Cv) (w : World) (e : Ending) (w' : World) : Prop :=
  ∃ v l, e = .returned (.tuple #[v, .int .i64 (folE c)]) ∧ w'.ownsRow w.heap.size 3 1 v l.length (iv l) ∧ G w w' ∧ (folJ c = none → l = []) ∧ ∀ k, folJ c = some k → l = broL (brk k.ps) c.bks.toNat
set_option maxRecDepth 100000 in
set_option maxHeartbeats 8000000 in
theorem Broken_any (c : Cv) (w : World) (h : c.At w) : Calls Tryz.prog 21 #[.agg c.v] w (BroPost c w) := by
  have HF := Lib.hid (fun (W : World) (hW : G w W) => (follow_any c W (h.keep hW)).mono fun e w' hh => FolPost.two hh)
  have HP1 : Hid (folJ c = none → ∀ w', G w w' → BroPost c w (.returned (.tuple #[.slice none 0 0, .int .i64 (folE c)])) w') := fun h1 w' hG =>
    ⟨_, [], rfl, World.ownsRow_nil _ _ _ _, hG, fun _ => rfl, fun k hk => absurd (hk.symm.trans h1) (by simp)⟩
  have HP2 : Hid (∀ k, folJ c = some k → ∀ w' v, w'.ownsRow w.heap.size 3 1 v (broL (brk k.ps) c.bks.toNat).length (iv (broL (brk k.ps) c.bks.toNat)) → G w w' → BroPost c w (.returned (.tuple #[v, .int .i64 0])) w') := fun k hk w' v h1 hG =>
    ⟨v, _, by rw [folE_some hk], h1, hG, fun e => absurd (hk.symm.trans e) (by simp), fun k2 hk2 => by
      have e2 := hk.symm.trans hk2
      cases e2
      rfl⟩
  have HBD : Hid (∀ k : Jn, folJ c = some k → c.bks = ((c.bks.toNat : Nat) : Int) ∧ c.bks.toNat ≤ 6) := fun k hk => by
    have := vcB_act (folJ_some hk).1
    omega
  generalize BroPost c w = PP at *
  clear h
  obtain ⟨FE, hFE⟩ : ∃ FE, FE = folE c := ⟨_, rfl⟩
  rw [← hFE] at HF HP1
  clear hFE
  obtain ⟨ND, hND⟩ : ∃ ND, ND = c.bks.toNat := ⟨_, rfl⟩
  rw [← hND] at HP2 HBD
  clear hND
  obtain ⟨CC, hCC⟩ : ∃ CC, CC = c := ⟨_, rfl⟩
  rw [← hCC] at HP1 HP2 HBD
  have HCC := Lib.hid hCC
  have HCB : Hid (CC.bks = c.bks) := by rw [hCC]; rfl
  clear hCC
  obtain ⟨cbks, cbds, caa, cac, cacts, cda, cdc, cduties, cen⟩ := c
  unfold Cv.v at *
  dsimp only at *
  have g0 : G w (w.alloc (.cells #[.int .i64 cbks, .int .i64 cbds, .slice caa cacts.length cac, .slice cda cduties.length cdc, .int .i64 cen] 25)) := (G.rf _).a _
  have b0 : Blk (w.alloc (.cells #[.int .i64 cbks, .int .i64 cbds, .slice caa cacts.length cac, .slice cda cduties.length cdc, .int .i64 cen] 25)) w.heap.size 25 #[.int .i64 cbks, .int .i64 cbds, .slice caa cacts.length cac, .slice cda cduties.length cdc, .int .i64 cen] := Blk.new _ _ _
  have m0 := b0.cell 0
  have m1 := b0.cell 1
  have m2 := b0.cell 2
  have m3 := b0.cell 3
  have m4 := b0.cell 4
  have l0 := b0.lt
  go_enter Tryz.func21, Tryz.ntmps21
  go_upto_region 2 with (go_at_call 32; refine (HF.out _ g0).mono ?_; rintro e w1 ⟨hG1, ⟨hn, hne, rfl⟩ | ⟨k, J, m, P, pa, pc, qa, qc, hk, rfl, hF1⟩⟩)
  · have HZ := Lib.hid (HP1.out (by rw [HCC.out]; exact hn) _ ((g0.t hG1).a (.cells #[.pointer none] 71)))
    have hneb : ¬ FE = 0 := hne
    clear HP1 HP2 HF hn m0 m1 m2 m3 m4 l0 hne HBD
    go_wp2_with fail
    first | exact HZ.out | (go_ret; exact HZ.out)
  · rw [← HCC.out] at hk hF1
    obtain ⟨hb1, hb2⟩ := HBD.out k hk
    have HZ := Lib.hid (HP2.out k hk)
    have hbk : cbks = (ND : Nat) := by rw [← hb1]; exact HCB.out.symm
    have ga : G w1 (w1.alloc (.cells #[.pointer (some ⟨J, 0, none⟩)] 71)) := (G.rf _).a _
    have bC : Blk (w1.alloc (.cells #[.pointer (some ⟨J, 0, none⟩)] 71)) w1.heap.size 71 #[.pointer (some ⟨J, 0, none⟩)] := Blk.new _ _ _
    have HF2 := Lib.hid (hF1.keep ga)
    have g2 := (g0.t hG1).t ga
    have HN := Lib.hid (numbers_any 53 (enters_of Tryz.func53 (by kernel_rfl) rfl) #[.pointer (some ⟨w1.heap.size, 0, none⟩)] ND (fun b => broB (brk k.ps) (b : Int)) (w1.alloc (.cells #[.pointer (some ⟨J, 0, none⟩)] 71)) (by omega) (fun W' hW i hi => bro1_any (i : Int) w1.heap.size W' (HF2.out.keep hW).jt (bC.keep hW)))
    unfold IvPost at HN
    have b2 := (b0.keep hG1).keep ga
    have hszw : w.heap.size ≤ (w1.alloc (.cells #[.pointer (some ⟨J, 0, none⟩)] 71)).heap.size := g2.size
    clear hk m0 m1 m2 m3 m4 l0 HF HP1 HP2 HBD b0 hF1 bC HF2 hb1 ga hG1 g0 HCB
    change Code.wp _ _ _ _ (w1.alloc (.cells #[.pointer (some ⟨J, 0, none⟩)] 71))
    obtain ⟨C, hC⟩ : ∃ C, C = w1.heap.size := ⟨_, rfl⟩
    rw [← hC] at HN ⊢
    clear hC
    generalize w1.alloc (.cells #[.pointer (some ⟨J, 0, none⟩)] 71) = w2 at *
    rw [hbk] at b2
    have m0 := b2.cell 0
    have l0 := b2.lt
    subst hbk
    go_wp2_with (go_at_call 40; refine HN.out.mono ?_; rintro e w3 ⟨v, rfl, ho, hG3⟩)
    have HZ2 := Lib.hid (HZ.out w3 v (own_weaken ho hszw) (g2.t hG3))
    first | exact HZ2.out | (go_ret; exact HZ2.out)
end Go.Proofs.YtabnpimidhlbiaaGreat

set_option linter.unusedSimpArgs false
set_option linter.unusedVariables false
namespace Go.Proofs.YtabnpimidhlbiaaGreat
open Go.RowKit Go.Shelf Go.Sort
attribute [local go_sem] Oper.semAt_some
/-- the seal of each basket, and its last look -/
def updI (f : Int → Int) (b v : Int) : Int → Int := fun x => if x = b then v else f x
def sgS (s : (Int → Int) × (Int → Int)) (a : Ac) : (Int → Int) × (Int → Int) :=
  if a.kd = 3 then (updI s.1 a.bk a.sl, s.2) else if a.kd = 4 ∨ a.kd = 5 then (s.1, updI s.2 a.bk a.tm) else s
def sg (l : List Ac) : (Int → Int) × (Int → Int) := l.foldl sgS (fun _ => 0, fun _ => 0)
theorem sg_snoc (l : List Ac) (a : Ac) : sg (l ++ [a]) = sgS (sg l) a := by simp [sg]
/-- a look that sees the right number, after the acts before it -/
def okA (l : List Ac) (a : Ac) : Prop := (a.kd = 4 ∨ a.kd = 5) → a.sl = (sg l).1 a.bk
structure SgInv (j : Jn) : Prop where
  ok : JOk j
  nb : ∀ p ∈ j.ps, p.br = false
  op : ∀ b i, j.sd b = some i → (j.ps.getD i default).sl = (sg j.past).1 b ∧ (sg j.past).2 b ≤ (j.ps.getD i default).wh
  cl : ∀ i, i < j.ps.length → j.sd (j.ps.getD i default).bk ≠ some i → (j.ps.getD i default).en ≤ (j.ps.getD i default).wh
  sl : j.ps.map (·.sl) = (j.past.filter fun a => decide (a.kd = 3)).map (·.sl)
  la : ∀ b T, (∀ a ∈ j.past, a.tm ≤ T) → 0 ≤ T → (sg j.past).2 b ≤ T
theorem SgInv.zero : SgInv Jn.zero := ⟨JOk.zero, fun p hp => by simp [Jn.zero] at hp, fun b i h => by simp [Jn.zero] at h, fun i hi => by simp [Jn.zero] at hi, rfl, fun b T _ h => h⟩
theorem get_someP {l : List Pe} {i : Nat} (h : i < l.length) : l[i]? = some (l.getD i default) := by simp [List.getD_eq_getElem?_getD, h]
theorem getD_setP {l : List Pe} {i k : Nat} {y : Pe} (hi : i < l.length) : (l.set i y).getD k default = if k = i then y else l.getD k default := by
  rw [List.getD_eq_getElem?_getD, List.getElem?_set]
  by_cases h : i = k
  · subst h
    rw [if_pos rfl, if_pos hi, if_pos rfl]
    rfl
  · rw [if_neg h, if_neg (fun e => h e.symm), List.getD_eq_getElem?_getD]
theorem getD_snocP {l : List Pe} {y : Pe} (k : Nat) (hk : k < l.length + 1) : (l ++ [y]).getD k default = if k = l.length then y else l.getD k default := by
  rw [List.getD_eq_getElem?_getD, List.getElem?_append]
  by_cases h : k < l.length
  · rw [if_pos h, if_neg (by omega), List.getD_eq_getElem?_getD]
  · obtain rfl : k = l.length := by omega
    rw [if_neg h, if_pos rfl]
    simp
theorem SgInv.step {E : Int} {j : Jn} (h : SgInv j) {a : Ac} (hk : 1 ≤ a.kd ∧ a.kd ≤ 5) (ht : ∀ x ∈ j.past, x.tm ≤ a.tm) (ht0 : 0 ≤ a.tm) (ha : (hap E j a).2 = true) (hv : okA j.past a) :
    SgInv { (hap E j a).1 with past := (hap E j a).1.past ++ [a] } := by
  have hjo := JOk.hap h.ok ha
  have hla : ∀ b T, (∀ x ∈ j.past ++ [a], x.tm ≤ T) → 0 ≤ T → (sg (j.past ++ [a])).2 b ≤ T := fun b T hT h0 => by
    rw [sg_snoc]
    have h1 := h.la b T (fun x hx => hT x (List.mem_append_left _ hx)) h0
    have h2 := hT a (by simp)
    unfold sgS
    split
    · exact h1
    · split
      · show updI _ _ _ _ ≤ _
        unfold updI
        split
        · exact h2
        · exact h1
      · exact h1
  have hlt : ∀ b, (sg j.past).2 b ≤ a.tm := fun b => h.la b a.tm ht ht0
  rcases hap_cases ha with ⟨hk2, hs, he⟩ | ⟨hk3, hs, he⟩ | ⟨hk4, m, hm, he⟩
  · -- marked in or taken out
    rw [he] at hjo ⊢
    have hsg : sg (j.past ++ [a]) = sg j.past := by
      rw [sg_snoc]
      unfold sgS
      rw [if_neg (by omega), if_neg (by omega)]
    refine ⟨hjo, h.nb, fun b i hb => ?_, h.cl, ?_, hla⟩
    · show _ = (sg (j.past ++ [a])).1 b ∧ (sg (j.past ++ [a])).2 b ≤ _
      rw [hsg]
      exact h.op b i hb
    · show j.ps.map (·.sl) = _
      rw [List.filter_append, List.map_append, List.filter_cons_of_neg (by simp; omega)]
      simpa using h.sl
  · -- sealed
    rw [he] at hjo ⊢
    have hsg : sg (j.past ++ [a]) = (updI (sg j.past).1 a.bk a.sl, (sg j.past).2) := by
      rw [sg_snoc]
      unfold sgS
      rw [if_pos hk3]
    refine ⟨hjo, fun p hp => ?_, fun b i hb => ?_, fun i hi hn => ?_, ?_, hla⟩
    · rcases List.mem_append.1 hp with hp | hp
      · exact h.nb p hp
      · rw [List.mem_singleton] at hp
        rw [hp]; rfl
    · have hb2 : (if b = a.bk then some j.ps.length else j.sd b) = some i := hb
      show ((j.ps ++ [newP E a]).getD i default).sl = (sg (j.past ++ [a])).1 b ∧ (sg (j.past ++ [a])).2 b ≤ ((j.ps ++ [newP E a]).getD i default).wh
      rw [hsg]
      by_cases hba : b = a.bk
      · rw [if_pos hba] at hb2
        injection hb2 with hb2
        rw [getD_snocP i (by omega), if_pos hb2.symm]
        refine ⟨?_, hlt b⟩
        show a.sl = updI _ _ _ _
        unfold updI
        rw [if_pos hba]
      · rw [if_neg hba] at hb2
        have hi := (h.ok.som b i hb2).1
        rw [getD_snocP i (by omega), if_neg (by omega)]
        have := h.op b i hb2
        refine ⟨?_, this.2⟩
        show _ = updI _ _ _ _
        unfold updI
        rw [if_neg hba]
        exact this.1
    · have hi2 : i < j.ps.length + 1 := by simpa using hi
      have hn2 : (if ((j.ps ++ [newP E a]).getD i default).bk = a.bk then some j.ps.length else j.sd ((j.ps ++ [newP E a]).getD i default).bk) ≠ some i := hn
      show ((j.ps ++ [newP E a]).getD i default).en ≤ ((j.ps ++ [newP E a]).getD i default).wh
      rw [getD_snocP i hi2] at hn2 ⊢
      by_cases hil : i = j.ps.length
      · exfalso
        rw [if_pos hil] at hn2
        refine hn2 ?_
        rw [if_pos (show (newP E a).bk = a.bk from rfl), hil]
      · rw [if_neg hil] at hn2 ⊢
        refine h.cl i (by omega) fun e => ?_
        by_cases hb : (j.ps.getD i default).bk = a.bk
        · rw [hb, hs] at e; cases e
        · rw [if_neg hb] at hn2
          exact hn2 e
    · show (j.ps ++ [newP E a]).map (·.sl) = _
      rw [List.map_append, h.sl, List.filter_append, List.map_append, List.filter_cons_of_pos (by simp; exact hk3)]
      rfl
  · -- a look, or unsealed
    have hk45 : a.kd = 4 ∨ a.kd = 5 := by omega
    have hmi := h.ok.som _ _ hm
    have hpm := h.op _ _ hm
    have hbr : (j.ps.getD m default).br = false := h.nb _ (by
      rw [List.getD_eq_getElem?_getD, List.getElem?_eq_getElem hmi.1]
      exact List.getElem_mem hmi.1)
    have hsl : a.sl = (j.ps.getD m default).sl := by rw [hpm.1]; exact hv hk45
    rw [he] at hjo ⊢
    have hsg : sg (j.past ++ [a]) = ((sg j.past).1, updI (sg j.past).2 a.bk a.tm) := by
      rw [sg_snoc]
      unfold sgS
      rw [if_neg (by omega), if_pos hk45]
    have hlb : (lookP (j.ps.getD m default) a).1.br = false := by rw [lookP_brv, if_neg (fun e => e.1 hsl)]; exact hbr
    have hlw : (lookP (j.ps.getD m default) a).1.wh = a.tm := by rw [lookP_whv, if_pos hsl]
    have hle : (lookP (j.ps.getD m default) a).1.en = if a.kd = 5 then min (j.ps.getD m default).en a.tm else (j.ps.getD m default).en := by rw [lookP_en, if_neg (fun e => e.1 hsl)]
    have hlk : (lookP (j.ps.getD m default) a).1.bk = (j.ps.getD m default).bk ∧ (lookP (j.ps.getD m default) a).1.sl = (j.ps.getD m default).sl := by
      unfold lookP
      split <;> (dsimp only; split) <;> (first | exact ⟨rfl, rfl⟩ | (split <;> exact ⟨rfl, rfl⟩))
    refine ⟨hjo, fun p hp => ?_, fun b i hb => ?_, fun i hi hn => ?_, ?_, hla⟩
    · rcases List.mem_or_eq_of_mem_set hp with hp | hp
      · exact h.nb p hp
      · rw [hp]; exact hlb
    · have hb2 : j.sd b = some i := by
        have hb3 : (if a.kd = 5 then (fun b => if b = a.bk then none else j.sd b) else j.sd) b = some i := hb
        by_cases h5 : a.kd = 5
        · rw [if_pos h5] at hb3
          by_cases e : b = a.bk
          · simp [e] at hb3
          · simpa [e] using hb3
        · rw [if_neg h5] at hb3; exact hb3
      have hi := (h.ok.som b i hb2)
      show ((j.ps.set m (lookP (j.ps.getD m default) a).1).getD i default).sl = (sg (j.past ++ [a])).1 b ∧ (sg (j.past ++ [a])).2 b ≤ ((j.ps.set m (lookP (j.ps.getD m default) a).1).getD i default).wh
      rw [hsg, getD_setP hmi.1]
      by_cases hba : b = a.bk
      · have him : i = m := by
          rw [hba, hm] at hb2
          injection hb2 with e
          exact e.symm
        rw [if_pos him, hlw, hlk.2]
        refine ⟨by rw [hba]; exact hpm.1, ?_⟩
        show updI _ _ _ _ ≤ _
        unfold updI
        rw [if_pos hba]
        exact Int.le_refl _
      · have him : i ≠ m := fun e => hba (by rw [← hi.2, e]; exact hmi.2)
        rw [if_neg him]
        have := h.op b i hb2
        refine ⟨this.1, ?_⟩
        show updI _ _ _ _ ≤ _
        unfold updI
        rw [if_neg hba]
        exact this.2
    · have hi2 : i < j.ps.length := by simpa using hi
      have hn2 : (if a.kd = 5 then (fun b => if b = a.bk then none else j.sd b) else j.sd) ((j.ps.set m (lookP (j.ps.getD m default) a).1).getD i default).bk ≠ some i := hn
      show ((j.ps.set m (lookP (j.ps.getD m default) a).1).getD i default).en ≤ ((j.ps.set m (lookP (j.ps.getD m default) a).1).getD i default).wh
      rw [getD_setP hmi.1] at hn2 ⊢
      by_cases him : i = m
      · rw [if_pos him] at hn2 ⊢
        rw [hlk.1, hmi.2] at hn2
        by_cases h5 : a.kd = 5
        · rw [hlw, hle, if_pos h5]
          exact Int.min_le_right _ _
        · exfalso
          rw [if_neg h5] at hn2
          exact hn2 (by rw [hm, him])
      · rw [if_neg him] at hn2 ⊢
        refine h.cl i hi2 fun e => ?_
        by_cases h5 : a.kd = 5
        · rw [if_pos h5] at hn2
          by_cases hb : (j.ps.getD i default).bk = a.bk
          · rw [hb, hm] at e
            injection e with e
            exact him e.symm
          · refine hn2 ?_
            show (if _ = a.bk then none else j.sd _) = some i
            rw [if_neg hb]
            exact e
        · rw [if_neg h5] at hn2
          exact hn2 e
    · show (j.ps.set m (lookP (j.ps.getD m default) a).1).map (·.sl) = _
      rw [List.filter_append, List.map_append, List.filter_cons_of_neg (by simp; omega), List.map_set]
      have e1 : (j.ps.map (·.sl)).set m (lookP (j.ps.getD m default) a).1.sl = j.ps.map (·.sl) := by
        rw [hlk.2]
        apply List.ext_getElem?
        intro t
        rw [List.getElem?_set]
        split
        · rename_i e
          subst e
          split
          · rw [List.getElem?_map, get_someP hmi.1]
            rfl
          · rename_i h9; simp at h9; omega
        · rfl
      rw [e1]
      simpa using h.sl
theorem sg_run (E : Int) : ∀ (l : List Ac) (j k : Jn), run E j l = some k → SgInv j → (∀ a ∈ l, 1 ≤ a.kd ∧ a.kd ≤ 5 ∧ 0 ≤ a.tm) → (∀ x ∈ j.past, ∀ a ∈ l, x.tm ≤ a.tm) → StrA l → (∀ i, i < l.length → okA (j.past ++ l.take i) (l.getD i default)) → SgInv k
  | [], j, k, h, hi, _, _, _, _ => by
    have : some j = some k := h
    injection this with e
    exact e ▸ hi
  | a :: l, j, k, h, hi, hk, ht, hs, hv => by
    have h2 := h
    unfold run at h2
    split at h2
    · rename_i ha
      have hka := hk a (by simp)
      have hv0 := hv 0 (by simp)
      have hp : (hap E j a).1.past = j.past := hap_past E j a
      have hst := hi.step (E := E) (a := a) ⟨hka.1, hka.2.1⟩ (fun x hx => ht x hx a (by simp)) hka.2.2 ha (by simpa using hv0)
      refine sg_run E l _ k h2 hst (fun x hx => hk x (by simp [hx])) ?_ (List.Pairwise.of_cons hs) ?_
      · intro x hx y hy
        have hx2 : x ∈ (hap E j a).1.past ++ [a] := hx
        rw [hp] at hx2
        rcases List.mem_append.1 hx2 with hx2 | hx2
        · exact ht x hx2 y (by simp [hy])
        · rw [List.mem_singleton] at hx2
          rw [hx2]
          exact strA_tm hs y hy
      · intro i hil
        have := hv (i + 1) (by simpa using hil)
        show okA (((hap E j a).1.past ++ [a]) ++ l.take i) (l.getD i default)
        rw [hp, List.append_assoc]
        simpa using this
    · cases h2
theorem dbl_no {ps : List Pe} (hn : (ps.map (·.sl)).Nodup) (s : Int) : dblB ps s = false := by
  unfold dblB dblN
  rw [List.take_length]
  refine decide_eq_false ?_
  have h1 : (ps.filter fun p => p.sl == s).length = ((ps.map (·.sl)).filter fun x => x == s).length := by
    rw [List.filter_map, List.length_map]
    rfl
  rw [h1]
  have h2 := (List.nodup_iff_count.1 hn) s
  rw [List.count_eq_length_filter] at h2
  omega
theorem opn_skip (qs : List Pe) (bk : Int) : ∀ (l : List Pe) (out : List (Int × Int)), (∀ p ∈ l, p.bk ≠ bk ∨ openL qs p > p.en - 1) → l.foldl (opnS qs bk) out = out
  | [], out, _ => rfl
  | p :: l, out, h => by
    rw [List.foldl_cons]
    have e : opnS qs bk out p = out := by unfold opnS; rw [if_pos (h p (by simp))]
    rw [e]
    exact opn_skip qs bk l out fun x hx => h x (by simp [hx])
/-- what the theorem of the single seals says of a journey -/
theorem single_pure {c : Cv} {k : Jn} (hk : folJ c = some k) (hU : ((hrd c.acts).filter fun a => decide (a.kd = 3)).Pairwise fun a b => a.sl ≠ b.sl) (hV : ∀ i, i < (hrd c.acts).length → okA ((hrd c.acts).take i) ((hrd c.acts).getD i default)) (b : Int) :
    brk k.ps = [] ∧ (opnL k.ps b = [] ∨ ∃ x y, opnL k.ps b = [(x, y)] ∧ (sg (hrd c.acts)).2 b ≤ x) := by
  obtain ⟨hvc, hcl, hr⟩ := folJ_some hk
  have h1 := (clashB_iff _).1 hcl
  have hA := vcB_act hvc
  have hpast : k.past = hrd c.acts := by rw [run_past _ _ _ _ hr]; rfl
  have inv := sg_run _ _ _ _ hr SgInv.zero (fun a ha => by
    have h2 := hA.1 a ((hrd_mem _ _).1 ha)
    simp only [actB, upB, Bool.and_eq_true, decide_eq_true_eq] at h2
    refine ⟨?_, ?_, by omega⟩
    · by_cases e1 : a.kd = 1
      · omega
      by_cases e2 : a.kd = 2
      · omega
      by_cases e3 : a.kd = 3
      · omega
      by_cases e4 : a.kd = 4 ∨ a.kd = 5
      · omega
      exfalso
      simp [e1, e2, e3, e4] at h2
    · by_cases e1 : a.kd = 1
      · omega
      by_cases e2 : a.kd = 2
      · omega
      by_cases e3 : a.kd = 3
      · omega
      by_cases e4 : a.kd = 4 ∨ a.kd = 5
      · omega
      exfalso
      simp [e1, e2, e3, e4] at h2) (fun x hx => by simp [Jn.zero] at hx) (hrd_str h1) (fun i hi => by simpa [Jn.zero] using hV i hi)
  have hnd : (k.ps.map (·.sl)).Nodup := by
    rw [inv.sl, hpast]
    exact List.pairwise_map.2 hU
  refine ⟨?_, ?_⟩
  · unfold brk
    rw [List.filter_eq_nil_iff]
    intro p hp
    rw [inv.nb p hp]
    simp
  have hop : ∀ p, openL k.ps p = p.wh := fun p => by unfold openL; rw [dbl_no hnd]; rfl
  have hskip : ∀ i, i < k.ps.length → k.sd b ≠ some i → (k.ps.getD i default).bk ≠ b ∨ openL k.ps (k.ps.getD i default) > (k.ps.getD i default).en - 1 := fun i hi hn => by
    by_cases hb : (k.ps.getD i default).bk = b
    · right
      rw [hop]
      have := inv.cl i hi (by rw [hb]; exact hn)
      omega
    · exact .inl hb
  have hmem : ∀ (l : List Pe) p, p ∈ l → ∃ i, i < l.length ∧ p = l.getD i default := fun l p hp => by
    obtain ⟨i, hi, rfl⟩ := List.getElem_of_mem hp
    exact ⟨i, hi, by rw [List.getD_eq_getElem?_getD, List.getElem?_eq_getElem hi]; rfl⟩
  cases hsd : k.sd b with
  | none =>
    left
    refine opn_skip _ _ _ _ fun p hp => ?_
    obtain ⟨i, hi, rfl⟩ := hmem _ _ hp
    exact hskip i hi (by rw [hsd]; simp)
  | some m =>
    have hm := inv.ok.som b m hsd
    have hsplit : k.ps = k.ps.take m ++ k.ps.getD m default :: k.ps.drop (m + 1) := by
      have h2 : k.ps.drop m = k.ps.getD m default :: k.ps.drop (m + 1) := by
        have hlt := hm.1
        rw [List.drop_eq_getElem_cons hlt]
        congr 1
        simp [List.getD_eq_getElem?_getD, hlt]
      rw [← h2, List.take_append_drop]
    have hs1 : (k.ps.take m).foldl (opnS k.ps b) [] = [] := opn_skip _ _ _ _ fun p hp => by
      obtain ⟨i, hi, rfl⟩ := hmem _ _ hp
      rw [List.length_take] at hi
      have e : (k.ps.take m).getD i default = k.ps.getD i default := by
        rw [List.getD_eq_getElem?_getD, List.getElem?_take_of_lt (by omega), List.getD_eq_getElem?_getD]
      rw [e]
      exact hskip i (by omega) (by rw [hsd]; intro e; injection e with e; omega)
    have hs2 : ∀ out, (k.ps.drop (m + 1)).foldl (opnS k.ps b) out = out := fun out => opn_skip _ _ _ _ fun p hp => by
      obtain ⟨i, hi, rfl⟩ := hmem _ _ hp
      rw [List.length_drop] at hi
      have e : (k.ps.drop (m + 1)).getD i default = k.ps.getD (m + 1 + i) default := by
        rw [List.getD_eq_getElem?_getD, List.getElem?_drop, List.getD_eq_getElem?_getD]
      rw [e]
      exact hskip _ (by omega) (by rw [hsd]; intro e; injection e with e; omega)
    have hfold : opnL k.ps b = opnS k.ps b [] (k.ps.getD m default) := by
      show k.ps.foldl (opnS k.ps b) [] = _
      have e : k.ps.foldl (opnS k.ps b) [] = (k.ps.take m ++ k.ps.getD m default :: k.ps.drop (m + 1)).foldl (opnS k.ps b) [] := by rw [← hsplit]
      rw [e, List.foldl_append, hs1, List.foldl_cons, hs2]
    rw [hfold]
    unfold opnS
    split
    · exact .inl rfl
    · rw [if_neg (by simp)]
      right
      refine ⟨_, _, rfl, ?_⟩
      rw [hop, ← hpast]
      exact (inv.op b m hsd).2
end Go.Proofs.YtabnpimidhlbiaaGreat

set_option linter.unusedSimpArgs false
set_option linter.unusedVariables false
namespace Go.Proofs.YtabnpimidhlbiaaGreat
open Go.RowKit Go.Shelf
attribute [local go_sem] Oper.semAt_some
set_option maxRecDepth 100000 in
set_option maxHeartbeats 4000000 in
/-- is a number in a row? -/
theorem in26_any (l : List Int) (n : Int) (a : Option Addr) (c : Nat) (w : World) (h1 : IntsAt w a l) (hl : l.length ≤ 1000) : Calls Tryz.prog 26 #[.slice a l.length c, .int .i64 n] w fun e w' => e = .returned (.bool (anyU (fun i => l.getD i 0 == n) l.length)) ∧ G w w' := by
  obtain ⟨AN, hAN⟩ : ∃ b, b = anyU (fun i => l.getD i 0 == n) l.length := ⟨_, rfl⟩
  rw [← hAN]
  have HAN := Lib.hid hAN
  clear hAN
  go_enter Tryz.func26, Tryz.ntmps26
  go_wp2_with fail
  go_loopw [5] (fun vi wr => ∃ k : Nat, k ≤ l.length ∧ vi = .int .i64 k ∧ Hid (∀ j, j < k → (l.getD j 0 == n) = false) ∧ Hid (G w wr)) (fun vi _ => l.length - (intOf vi).toNat)
  case atStart => exact ⟨0, Nat.zero_le _, rfl, fun j hj => by omega, G.rf _⟩
  case round =>
    obtain ⟨k, hk, rfl, HN, HG⟩ := hrel
    obtain ⟨wo, rfl⟩ : ∃ wo, wo = wr := ⟨_, rfl⟩
    by_cases hlt : k < l.length
    · have hki : (k : Int) < l.length := by omega
      rcases h1.below HG.out with rfl | ⟨g, off, rfl, lg, hcell⟩
      · simp at hlt
      have hc1 := hcell k hlt
      have HY : Hid ((l.getD k 0 == n) = true → AN = true) := fun h => by rw [HAN.out]; exact anyU_yes (p := fun i => l.getD i 0 == n) hlt h
      have HZ : Hid ((l.getD k 0 == n) = false → ∀ j, j < k + 1 → (l.getD j 0 == n) = false) := fun h j hj => by
        rcases Nat.lt_or_ge j k with h9 | h9
        · exact HN.out j h9
        · obtain rfl : j = k := by omega
          exact h
      obtain ⟨x, hx⟩ : ∃ x, x = l.getD k 0 := ⟨_, rfl⟩
      rw [← hx] at hc1 HY
      rw [show (l.getD k 0 == n) = (x == n) by rw [hx]] at HZ
      clear hcell hx HN HAN
      have hg := HG.out
      cases hb : (x == n)
      · have HF := Lib.hid (HZ.out hb)
        clear HY HZ
        go_wp2_with fail
        go_roundw
        case rel => exact ⟨k + 1, by omega, by go_num, HF.out, hg⟩
        case measure => simp [intOf] <;> omega
      · have HF := Lib.hid (HY.out hb)
        clear HY HZ
        go_wp2_with fail
        first | exact ⟨by rw [HF.out]; rfl, hg⟩ | (go_ret; exact ⟨by rw [HF.out]; rfl, hg⟩)
    · obtain rfl : k = l.length := by omega
      have hki : ¬ ((l.length : Nat) : Int) < l.length := by omega
      have hg := HG.out
      have HF : Hid (AN = false) := by show AN = false; rw [HAN.out]; exact anyU_no HN.out
      clear HN HAN
      go_wp2_with fail
      first | exact ⟨by rw [HF.out]; rfl, hg⟩ | (go_ret; exact ⟨by rw [HF.out]; rfl, hg⟩)
end Go.Proofs.YtabnpimidhlbiaaGreat

set_option linter.unusedSimpArgs false
set_option linter.unusedVariables false
namespace Go.Proofs.YtabnpimidhlbiaaGreat
open Go.RowKit Go.Shelf Go.Sort
attribute [local go_sem] Oper.semAt_some
theorem sg_take (A : List Ac) {i : Nat} (h : i < A.length) : sg (A.take (i + 1)) = sgS (sg (A.take i)) (A.getD i default) := by
  rw [List.take_succ_eq_append_getElem h, sg_snoc]
  congr 1
  simp [List.getD_eq_getElem?_getD, h]
def sngU (A : List Ac) (i : Nat) : Prop := ∀ b, b < i → ∀ a, a < b → ¬ ((A.getD b default).kd = 3 ∧ (A.getD a default).kd = 3 ∧ (A.getD a default).sl = (A.getD b default).sl)
def sngV (A : List Ac) (i : Nat) : Prop := ∀ b, b < i → okA (A.take b) (A.getD b default)
theorem sngU.next {A : List Ac} {i : Nat} (h : sngU A i) (hx : ∀ a, a < i → ¬ ((A.getD i default).kd = 3 ∧ (A.getD a default).kd = 3 ∧ (A.getD a default).sl = (A.getD i default).sl)) : sngU A (i + 1) := fun b hb a ha => by
  rcases Nat.lt_or_ge b i with h1 | h1
  · exact h b h1 a ha
  · obtain rfl : b = i := by omega
    exact hx a ha
theorem sngV.next {A : List Ac} {i : Nat} (h : sngV A i) (hx : okA (A.take i) (A.getD i default)) : sngV A (i + 1) := fun b hb => by
  rcases Nat.lt_or_ge b i with h1 | h1
  · exact h b h1
  · obtain rfl : b = i := by omega
    exact hx
theorem sngU.pair {A : List Ac} (h : sngU A A.length) : (A.filter fun a => decide (a.kd = 3)).Pairwise fun a b => a.sl ≠ b.sl := by
  rw [List.pairwise_filter, List.pairwise_iff_getElem]
  intro i j hi hj hij h1 h2 e
  have := h j hj i hij
  simp only [List.getD_eq_getElem?_getD, List.getElem?_eq_getElem hi, List.getElem?_eq_getElem hj, Option.getD_some] at this
  exact this ⟨of_decide_eq_true h2, of_decide_eq_true h1, e⟩
theorem ins_whr (past : List Ac) (mi bk x : Int) (N : Nat) (h0 : 0 ≤ x) (hN : x < (N : Int)) : anyU (fun i => (insL past mi bk N).getD i 0 == x) (insL past mi bk N).length = (whr past mi x == bk) := by
  have key : anyU (fun i => (insL past mi bk N).getD i 0 == x) (insL past mi bk N).length = true ↔ x ∈ insL past mi bk N := by
    unfold anyU
    rw [List.any_eq_true]
    constructor
    · rintro ⟨i, hi, h⟩
      have hi2 := List.mem_range.1 hi
      have h3 : (insL past mi bk N).getD i 0 = x := by simpa using h
      rw [← h3, List.getD_eq_getElem?_getD, List.getElem?_eq_getElem hi2]
      exact List.getElem_mem hi2
    · intro h
      obtain ⟨i, hi, e⟩ := List.getElem_of_mem h
      exact ⟨i, List.mem_range.2 hi, by rw [List.getD_eq_getElem?_getD, List.getElem?_eq_getElem hi]; simpa using e⟩
  have key2 : x ∈ insL past mi bk N ↔ (whr past mi x == bk) = true := by
    unfold insL numL
    rw [List.mem_map]
    constructor
    · rintro ⟨i, hi, rfl⟩
      exact (List.mem_filter.1 hi).2
    · intro h
      obtain ⟨n, rfl⟩ := Int.eq_ofNat_of_zero_le h0
      exact ⟨n, List.mem_filter.2 ⟨List.mem_range.2 (by omega), h⟩, rfl⟩
  exact Bool.eq_iff_iff.2 (key.trans key2)
/-- the questions of the law, all of whose arguments are those of the convoy -/
theorem sgl_q {c : Cv} {k : Jn} (hk : folJ c = some k) {x0 x1 x2 : Int} (h0 : 0 ≤ x0) (h0' : x0 ≤ 9999) (h1 : 0 ≤ x1) (h1' : x1 < c.bks) (h2 : 0 ≤ x2) (h2' : x2 < c.bds) : qErr c (upB x0 9999 && upB x1 (c.bks - 1)) = 0 ∧ qErr c (upB x0 9999 && upB x2 (c.bds - 1)) = 0 ∧ qErr c (upB x1 (c.bks - 1)) = 0 := by
  have hu : ∀ n l : Int, 0 ≤ n → n ≤ l → upB n l = true := fun n l a b => by unfold upB; rw [decide_eq_true a, decide_eq_true b]; rfl
  have hq : qErr c true = 0 := by unfold qErr; rw [if_pos (folE_some hk), if_pos rfl]
  rw [hu x0 9999 h0 h0', hu x1 (c.bks - 1) h1 (by omega), hu x2 (c.bds - 1) h2 (by omega)]
  exact ⟨hq, hq, hq⟩
theorem whe_k {c : Cv} {k : Jn} (hk : folJ c = some k) (mi bd : Int) (hq : qErr c (upB mi 9999 && upB bd (c.bds - 1)) = 0) (w : World) (h : c.At w) : Calls Tryz.prog 29 #[.agg c.v, .int .i64 mi, .int .i64 bd] w fun e w' => e = .returned (.tuple #[.int .i64 (whr k.past mi bd), .int .i64 0]) ∧ G w w' := by
  refine (Where_any c mi bd w h).mono ?_
  rintro e w' ⟨r, rfl, hG, _, h1⟩
  rw [hq]
  rw [h1 hq k hk]
  exact ⟨rfl, hG⟩
theorem bro_k {c : Cv} {k : Jn} (hk : folJ c = some k) (hb : brk k.ps = []) (w : World) (h : c.At w) : Calls Tryz.prog 21 #[.agg c.v] w fun e w' => ∃ a cap, e = .returned (.tuple #[.slice a 0 cap, .int .i64 0]) ∧ G w w' := by
  refine (Broken_any c w h).mono ?_
  rintro e w' ⟨v, l, rfl, hown, hG, _, h1⟩
  have e1 := h1 k hk
  rw [hb] at e1
  have e2 : l = [] := by
    rw [e1]
    unfold broL numL
    rw [List.map_eq_nil_iff, List.filter_eq_nil_iff]
    intro b _
    simp [broB, anyU]
  subst e2
  rw [folE_some hk]
  obtain ⟨a, cap, rfl⟩ := own_slice hown
  exact ⟨a, cap, rfl, hG⟩
/-- acts of a valid convoy, in their order -/
theorem hea_facts {c : Cv} {k : Jn} (hk : folJ c = some k) : heaL c.acts = hrd c.acts ∧ (heaL c.acts).length ≤ 40 ∧ ∀ a ∈ heaL c.acts, 1 ≤ a.kd ∧ a.kd ≤ 5 ∧ 0 ≤ a.bk ∧ a.bk < c.bks := by
  obtain ⟨hv, hcl, _⟩ := folJ_some hk
  have h1 := heaL_eq ((clashB_iff _).1 hcl)
  have hA := vcB_act hv
  refine ⟨h1, ?_, fun a ha => ?_⟩
  · have := hrd_len c.acts
    rw [h1]
    omega
  · rw [h1] at ha
    have h2 := hA.1 a ((hrd_mem _ _).1 ha)
    simp only [actB, upB, Bool.and_eq_true, decide_eq_true_eq] at h2
    have : 1 ≤ a.kd ∧ a.kd ≤ 5 := by
      by_cases e1 : a.kd = 1
      · omega
      by_cases e2 : a.kd = 2
      · omega
      by_cases e3 : a.kd = 3
      · omega
      by_cases e4 : a.kd = 4 ∨ a.kd = 5
      · omega
      exfalso
      simp [e1, e2, e3, e4] at h2
    omega
end Go.Proofs.YtabnpimidhlbiaaGreat

set_option linter.unusedSimpArgs false
set_option linter.unusedVariables false
namespace Go.Proofs.YtabnpimidhlbiaaGreat
open Go.RowKit Go.Shelf Go.ChangeShapes Go.WideShapes Go.ChangeAt
attribute [local go_sem] Oper.semAt_some
set_option maxRecDepth 100000
theorem kx22 : Tryz.prog.cellsOf 22 = 1 := by kernel_rfl
theorem kx23 : Tryz.prog.cellsOf 23 = 1 := by kernel_rfl
theorem kx25 : Tryz.prog.cellsOf 25 = 5 := by kernel_rfl
theorem kx54 : Tryz.prog.cellsOf 54 = 8 := by kernel_rfl
theorem kx56 : Tryz.prog.cellsOf 56 = 4 := by kernel_rfl
theorem kx64 : Tryz.prog.cellsOf 64 = 3 := by kernel_rfl
section
variable {H : Type} {enc : TypeId × Value → H} {w : World} {fuel : Nat}
theorem act1_of {cs : List Value} {x : DataW H × List MemPlace} (h : DataW.trod enc Tryz.prog w 0 (fun _ => true) true fuel 54 cs = some x) :
    ∃ y : Ac, cs = y.v.toList := by
  obtain ⟨xs, n, _, rfl, hl, hlen, hf⟩ := DataW.trod_struct Tryz.underlying54 h
  rw [kx54] at hl
  match cs, hl, xs, hlen with
  | [c0, c1, c2, c3, c4, c5, c6, c7], _, [y0, y1, y2, y3, y4, y5, y6, y7], _ =>
    have h0 := hf 0 _ rfl
    have h1 := hf 1 _ rfl
    have h2 := hf 2 _ rfl
    have h3 := hf 3 _ rfl
    have h4 := hf 4 _ rfl
    have h5 := hf 5 _ rfl
    have h6 := hf 6 _ rfl
    have h7 := hf 7 _ rfl
    simp [k3] at h0 h1 h2 h3 h4 h5 h6 h7
    obtain ⟨a0, e0, _, _⟩ := DataW.trod_int Tryz.underlying3 h0
    obtain ⟨a1, e1, _, _⟩ := DataW.trod_int Tryz.underlying3 h1
    obtain ⟨a2, e2, _, _⟩ := DataW.trod_int Tryz.underlying3 h2
    obtain ⟨a3, e3, _, _⟩ := DataW.trod_int Tryz.underlying3 h3
    obtain ⟨a4, e4, _, _⟩ := DataW.trod_int Tryz.underlying3 h4
    obtain ⟨a5, e5, _, _⟩ := DataW.trod_int Tryz.underlying3 h5
    obtain ⟨a6, e6, _, _⟩ := DataW.trod_int Tryz.underlying3 h6
    obtain ⟨a7, e7, _, _⟩ := DataW.trod_int Tryz.underlying3 h7
    simp at e0 e1 e2 e3 e4 e5 e6 e7
    subst e0 e1 e2 e3 e4 e5 e6 e7
    exact ⟨⟨a0, a1, a2, a3, a4, a5, a6, a7⟩, rfl⟩
theorem duty1_of {cs : List Value} {x : DataW H × List MemPlace} (h : DataW.trod enc Tryz.prog w 0 (fun _ => true) true fuel 56 cs = some x) :
    ∃ y : Du, cs = y.v.toList := by
  obtain ⟨xs, n, _, rfl, hl, hlen, hf⟩ := DataW.trod_struct Tryz.underlying56 h
  rw [kx56] at hl
  match cs, hl, xs, hlen with
  | [c0, c1, c2, c3], _, [y0, y1, y2, y3], _ =>
    have h0 := hf 0 _ rfl
    have h1 := hf 1 _ rfl
    have h2 := hf 2 _ rfl
    have h3 := hf 3 _ rfl
    simp [k3] at h0 h1 h2 h3
    obtain ⟨a0, e0, _, _⟩ := DataW.trod_int Tryz.underlying3 h0
    obtain ⟨a1, e1, _, _⟩ := DataW.trod_int Tryz.underlying3 h1
    obtain ⟨a2, e2, _, _⟩ := DataW.trod_int Tryz.underlying3 h2
    obtain ⟨a3, e3, _, _⟩ := DataW.trod_int Tryz.underlying3 h3
    simp at e0 e1 e2 e3
    subst e0 e1 e2 e3
    exact ⟨⟨a0, a1, a2, a3⟩, rfl⟩
end
section
variable {H : Type} {enc : TypeId × Value → H} {w : World} {fuel : Nat}
theorem acts1_of {cs : List Value} {x : DataW H × List MemPlace} (h : DataW.trod enc Tryz.prog w 0 (fun _ => true) true fuel 22 cs = some x) :
    ∃ (a : Option Addr) (cap : Nat) (l : List Ac), cs = [.slice a l.length cap] ∧ RowE Ac.v 8 w a l ∧ (a = none → cap = 0) := by
  rcases Deep.open_slice Tryz.underlying22 h with ⟨rfl, _⟩ | ⟨a, len, cap, m, n, D, Pl, rfl, hlc, hl, hm, hmm, _, hel⟩
  · exact ⟨none, 0, [], rfl, .inl rfl, fun _ => rfl⟩
  · simp at hmm
    rcases Nat.eq_zero_or_pos len with h0 | h0
    · subst h0
      exact ⟨some a, cap, [], rfl, .inl rfl, fun h => by cases h⟩
    · have hspot : a.spot = none := by
        obtain ⟨cs', h1, h2⟩ := hel 0 (by omega)
        obtain ⟨s, rfl⟩ := act1_of h2
        obtain ⟨_, _, hc⟩ := World.cells?_some h1
        rw [kx54] at hc
        have c0 := hc 0 (by omega)
        simpa [Addr.add] using World.cell?_spot c0
      obtain ⟨b, off, spot⟩ := a
      simp only at hspot
      subst hspot
      have key : ∀ i, ∃ s : Ac, i < len → ∀ r, r < 8 → w.cell? ⟨b, off + i * 8 + r, none⟩ = s.v[r]? := fun i => by
        by_cases hi : i < len
        · obtain ⟨cs', h1, h2⟩ := hel i (by omega)
          obtain ⟨s, rfl⟩ := act1_of h2
          obtain ⟨_, _, hc⟩ := World.cells?_some h1
          rw [kx54] at hc
          simp only [add_none] at hc
          refine ⟨s, fun _ r hr => ?_⟩
          have := hc r hr
          rw [this]
          cases s
          match r, hr with
          | 0, _ => rfl
          | 1, _ => rfl
          | 2, _ => rfl
          | 3, _ => rfl
          | 4, _ => rfl
          | 5, _ => rfl
          | 6, _ => rfl
          | 7, _ => rfl
        · exact ⟨default, fun h => absurd h hi⟩
      obtain ⟨f, hf⟩ := Classical.axiomOfChoice key
      have hlen : ((List.range len).map f).length = len := by simp
      have hget : ∀ k, k < len → ((List.range len).map f).getD k default = f k := fun k hk => by simp [List.getD_eq_getElem?_getD, hk]
      refine ⟨some ⟨b, off, none⟩, cap, (List.range len).map f, by rw [hlen], .inr ⟨b, off, rfl, lt_of_cell (hf 0 h0 0 (by omega)), fun k hk r hr => ?_⟩, fun h => by cases h⟩
      rw [hlen] at hk
      rw [hget k hk]
      exact hf k hk r hr
theorem duties1_of {cs : List Value} {x : DataW H × List MemPlace} (h : DataW.trod enc Tryz.prog w 0 (fun _ => true) true fuel 23 cs = some x) :
    ∃ (a : Option Addr) (cap : Nat) (l : List Du), cs = [.slice a l.length cap] ∧ RowE Du.v 4 w a l ∧ (a = none → cap = 0) := by
  rcases Deep.open_slice Tryz.underlying23 h with ⟨rfl, _⟩ | ⟨a, len, cap, m, n, D, Pl, rfl, hlc, hl, hm, hmm, _, hel⟩
  · exact ⟨none, 0, [], rfl, .inl rfl, fun _ => rfl⟩
  · simp at hmm
    rcases Nat.eq_zero_or_pos len with h0 | h0
    · subst h0
      exact ⟨some a, cap, [], rfl, .inl rfl, fun h => by cases h⟩
    · have hspot : a.spot = none := by
        obtain ⟨cs', h1, h2⟩ := hel 0 (by omega)
        obtain ⟨s, rfl⟩ := duty1_of h2
        obtain ⟨_, _, hc⟩ := World.cells?_some h1
        rw [kx56] at hc
        have c0 := hc 0 (by omega)
        simpa [Addr.add] using World.cell?_spot c0
      obtain ⟨b, off, spot⟩ := a
      simp only at hspot
      subst hspot
      have key : ∀ i, ∃ s : Du, i < len → ∀ r, r < 4 → w.cell? ⟨b, off + i * 4 + r, none⟩ = s.v[r]? := fun i => by
        by_cases hi : i < len
        · obtain ⟨cs', h1, h2⟩ := hel i (by omega)
          obtain ⟨s, rfl⟩ := duty1_of h2
          obtain ⟨_, _, hc⟩ := World.cells?_some h1
          rw [kx56] at hc
          simp only [add_none] at hc
          refine ⟨s, fun _ r hr => ?_⟩
          have := hc r hr
          rw [this]
          cases s
          match r, hr with
          | 0, _ => rfl
          | 1, _ => rfl
          | 2, _ => rfl
          | 3, _ => rfl
        · exact ⟨default, fun h => absurd h hi⟩
      obtain ⟨f, hf⟩ := Classical.axiomOfChoice key
      have hlen : ((List.range len).map f).length = len := by simp
      have hget : ∀ k, k < len → ((List.range len).map f).getD k default = f k := fun k hk => by simp [List.getD_eq_getElem?_getD, hk]
      refine ⟨some ⟨b, off, none⟩, cap, (List.range len).map f, by rw [hlen], .inr ⟨b, off, rfl, lt_of_cell (hf 0 h0 0 (by omega)), fun k hk r hr => ?_⟩, fun h => by cases h⟩
      rw [hlen] at hk
      rw [hget k hk]
      exact hf k hk r hr
end
theorem convoy_of {H : Type} {enc : TypeId × Value → H} {w : World} {v : Value} {d : DataW H} {p : List MemPlace} {r : Reach} {b0 : Nat} (hv : Value.okWide Tryz.prog w r b0 25 v) (h : DataW.Trod enc Tryz.prog w 0 (fun _ => true) true 25 v d p) :
    ∃ c : Cv, v = .agg c.v ∧ c.Laid w ∧ c.Nil := by
  obtain ⟨cs, rfl, hsz⟩ := okWide_struct Tryz.underlying25 hv
  rw [kx25] at hsz
  obtain ⟨l⟩ := cs
  obtain ⟨fuel, hf0⟩ := h
  obtain ⟨xs, n, _, _, hl, hlen, hf⟩ := DataW.trod_struct Tryz.underlying25 hf0
  match l, hsz, xs, hlen with
  | [c0, c1, c2, c3, c4], _, [y0, y1, y2, y3, y4], _ =>
    have h0 := hf 0 _ rfl
    have h1 := hf 1 _ rfl
    have h2 := hf 2 _ rfl
    have h3 := hf 3 _ rfl
    have h4 := hf 4 _ rfl
    simp [k3, kx22, kx23, Value.cells] at h0 h1 h2 h3 h4
    obtain ⟨a0, e0, _, _⟩ := DataW.trod_int Tryz.underlying3 h0
    obtain ⟨a1, e1, _, _⟩ := DataW.trod_int Tryz.underlying3 h1
    obtain ⟨aa, ac, acts, e2, g2, m2⟩ := acts1_of h2
    obtain ⟨da, dc, duties, e3, g3, m3⟩ := duties1_of h3
    obtain ⟨a4, e4, _, _⟩ := DataW.trod_int Tryz.underlying3 h4
    simp at e0 e1 e2 e3 e4
    subst e0 e1 e2 e3 e4
    exact ⟨⟨a0, a1, aa, ac, acts, da, dc, duties, a4⟩, rfl, ⟨g2, g3⟩, m2, m3⟩
theorem ask64_val {H : Type} {enc : TypeId × Value → H} {w : World} {v : Value} {d : DataW H} {p : List MemPlace} {r : Reach} {b0 : Nat} (hv : Value.okWide Tryz.prog w r b0 64 v) (h : DataW.Trod enc Tryz.prog w 0 (fun _ => true) true 64 v d p) :
    ∃ a b c : Int, v = .agg #[.int .i64 a, .int .i64 b, .int .i64 c] := by
  obtain ⟨cs, rfl, hsz⟩ := okWide_struct Tryz.underlying64 hv
  rw [kx64] at hsz
  obtain ⟨l⟩ := cs
  obtain ⟨fuel, hf0⟩ := h
  obtain ⟨xs, n, _, _, hl, hlen, hf⟩ := DataW.trod_struct Tryz.underlying64 hf0
  match l, hsz, xs, hlen with
  | [c0, c1, c2], _, [y0, y1, y2], _ =>
    have h0 := hf 0 _ rfl
    have h1 := hf 1 _ rfl
    have h2 := hf 2 _ rfl
    simp [k3, Value.cells] at h0 h1 h2
    obtain ⟨a0, e0, _, _⟩ := DataW.trod_int Tryz.underlying3 h0
    obtain ⟨a1, e1, _, _⟩ := DataW.trod_int Tryz.underlying3 h1
    obtain ⟨a2, e2, _, _⟩ := DataW.trod_int Tryz.underlying3 h2
    simp at e0 e1 e2
    subst e0 e1 e2
    exact ⟨a0, a1, a2, rfl⟩
end Go.Proofs.YtabnpimidhlbiaaGreat

set_option linter.unusedSimpArgs false
set_option linter.unusedVariables false
namespace Go.Proofs.YtabnpimidhlbiaaGreat
open Go.RowKit Go.Shelf Go.Sort Go.Maps
attribute [local go_sem] Oper.semAt_some
set_option maxRecDepth 100000 in
set_option maxHeartbeats 16000000 in
theorem SingleLaw (c : Cv) (x0 x1 x2 : Int) (w : World) (h : c.Laid w) : Calls Tryz.prog 7 #[.agg c.v, .agg #[.int .i64 x0, .int .i64 x1, .int .i64 x2]] w fun e w' => e = .returned (.bool true) ∧ G w w' := by
  have HWK := Lib.hid (fun (W : World) => works_any W)
  have HRD := Lib.hid (fun (W : World) (hW : G w W) => ready_any c W (h.keep hW))
  have HLA := Lib.hid h
  have HRE := Lib.hid (fun (hr : rdyB c = true) => (show farC c = false ∧ folE c = 0 by
    simp only [rdyB, Bool.and_eq_true, Bool.not_eq_true', decide_eq_true_eq] at hr
    exact hr))
  clear h
  obtain ⟨cc, hcc⟩ : ∃ cc, cc = c := ⟨_, rfl⟩
  have HCC := Lib.hid hcc
  rw [← hcc] at HLA HRE
  have hvb : rdyB cc = rdyB c := by rw [hcc]
  clear hcc
  obtain ⟨ybks, ybds, yaa, yac, yacts, yda, ydc, yduties, yen⟩ := c
  rw [← hvb] at HRD
  clear hvb
  unfold Cv.v at HRD ⊢
  dsimp only at HRD HRE ⊢
  obtain ⟨W1, hW1⟩ : ∃ W1, W1 = (w.alloc (.cells #[.int .i64 ybks, .int .i64 ybds, .slice yaa yacts.length yac, .slice yda yduties.length ydc, .int .i64 yen] 25)).alloc (.cells #[.int .i64 x0, .int .i64 x1, .int .i64 x2] 64) := ⟨_, rfl⟩
  have g0 : G w W1 := by rw [hW1]; exact ((G.rf _).a _).a _
  have b0 : Blk W1 w.heap.size 25 #[.int .i64 ybks, .int .i64 ybds, .slice yaa yacts.length yac, .slice yda yduties.length ydc, .int .i64 yen] := by rw [hW1]; exact (Blk.new _ _ _).alloc _
  have b1 : Blk W1 (w.heap.size + 1) 64 #[.int .i64 x0, .int .i64 x1, .int .i64 x2] := by rw [hW1]; exact Blk.new1 _ _ _ _
  go_enter Tryz.func7, Tryz.ntmps7
  go_upto_region 1 with fail
  change Code.wp _ _ _ _ ((w.alloc (.cells #[.int .i64 ybks, .int .i64 ybds, .slice yaa yacts.length yac, .slice yda yduties.length ydc, .int .i64 yen] 25)).alloc (.cells #[.int .i64 x0, .int .i64 x1, .int .i64 x2] 64))
  rw [← hW1]
  clear hW1
  have m0 := b0.cell 0
  have m1 := b0.cell 1
  have m2 := b0.cell 2
  have m3 := b0.cell 3
  have m4 := b0.cell 4
  have lm := b0.lt
  have p0 := b1.cell 0
  have p1 := b1.cell 1
  have p2 := b1.cell 2
  have lp := b1.lt
  cases hVB : rdyB cc
  · rw [hVB] at HRD
    go_wp2_with (first | (go_at_call 18; refine (HRD.out _ g0).mono ?_; rintro e w2 ⟨rfl, hG2⟩; clear m0 m1 m2 m3 m4 lm p0 p1 p2 lp; have m0 := (b0.keep hG2).cell 0; have m1 := (b0.keep hG2).cell 1; have m2 := (b0.keep hG2).cell 2; have m3 := (b0.keep hG2).cell 3; have m4 := (b0.keep hG2).cell 4; have lm := (b0.keep hG2).lt; have p0 := (b1.keep hG2).cell 0; have p1 := (b1.keep hG2).cell 1; have p2 := (b1.keep hG2).cell 2; have lp := (b1.keep hG2).lt) | (go_at_call 9; refine (HWK.out _).mono ?_; rintro e w3 ⟨rfl, hG3⟩))
    have gz := (g0.t hG2).t hG3
    first | exact ⟨rfl, gz⟩ | (go_ret; exact ⟨rfl, gz⟩)
  rw [hVB] at HRD
  by_cases hc0 : x0 < 0
  · go_wp2_with (first | (go_at_call 18; refine (HRD.out _ g0).mono ?_; rintro e w2 ⟨rfl, hG2⟩; clear m0 m1 m2 m3 m4 lm p0 p1 p2 lp; have m0 := (b0.keep hG2).cell 0; have m1 := (b0.keep hG2).cell 1; have m2 := (b0.keep hG2).cell 2; have m3 := (b0.keep hG2).cell 3; have m4 := (b0.keep hG2).cell 4; have lm := (b0.keep hG2).lt; have p0 := (b1.keep hG2).cell 0; have p1 := (b1.keep hG2).cell 1; have p2 := (b1.keep hG2).cell 2; have lp := (b1.keep hG2).lt) | (go_at_call 9; refine (HWK.out _).mono ?_; rintro e w3 ⟨rfl, hG3⟩))
    have gz := (g0.t hG2).t hG3
    first | exact ⟨rfl, gz⟩ | (go_ret; exact ⟨rfl, gz⟩)
  by_cases hc1 : 9999 < x0
  · go_wp2_with (first | (go_at_call 18; refine (HRD.out _ g0).mono ?_; rintro e w2 ⟨rfl, hG2⟩; clear m0 m1 m2 m3 m4 lm p0 p1 p2 lp; have m0 := (b0.keep hG2).cell 0; have m1 := (b0.keep hG2).cell 1; have m2 := (b0.keep hG2).cell 2; have m3 := (b0.keep hG2).cell 3; have m4 := (b0.keep hG2).cell 4; have lm := (b0.keep hG2).lt; have p0 := (b1.keep hG2).cell 0; have p1 := (b1.keep hG2).cell 1; have p2 := (b1.keep hG2).cell 2; have lp := (b1.keep hG2).lt) | (go_at_call 9; refine (HWK.out _).mono ?_; rintro e w3 ⟨rfl, hG3⟩))
    have gz := (g0.t hG2).t hG3
    first | exact ⟨rfl, gz⟩ | (go_ret; exact ⟨rfl, gz⟩)
  by_cases hc2 : x1 < 0
  · go_wp2_with (first | (go_at_call 18; refine (HRD.out _ g0).mono ?_; rintro e w2 ⟨rfl, hG2⟩; clear m0 m1 m2 m3 m4 lm p0 p1 p2 lp; have m0 := (b0.keep hG2).cell 0; have m1 := (b0.keep hG2).cell 1; have m2 := (b0.keep hG2).cell 2; have m3 := (b0.keep hG2).cell 3; have m4 := (b0.keep hG2).cell 4; have lm := (b0.keep hG2).lt; have p0 := (b1.keep hG2).cell 0; have p1 := (b1.keep hG2).cell 1; have p2 := (b1.keep hG2).cell 2; have lp := (b1.keep hG2).lt) | (go_at_call 9; refine (HWK.out _).mono ?_; rintro e w3 ⟨rfl, hG3⟩))
    have gz := (g0.t hG2).t hG3
    first | exact ⟨rfl, gz⟩ | (go_ret; exact ⟨rfl, gz⟩)
  by_cases hc3 : ybks ≤ x1
  · go_wp2_with (first | (go_at_call 18; refine (HRD.out _ g0).mono ?_; rintro e w2 ⟨rfl, hG2⟩; clear m0 m1 m2 m3 m4 lm p0 p1 p2 lp; have m0 := (b0.keep hG2).cell 0; have m1 := (b0.keep hG2).cell 1; have m2 := (b0.keep hG2).cell 2; have m3 := (b0.keep hG2).cell 3; have m4 := (b0.keep hG2).cell 4; have lm := (b0.keep hG2).lt; have p0 := (b1.keep hG2).cell 0; have p1 := (b1.keep hG2).cell 1; have p2 := (b1.keep hG2).cell 2; have lp := (b1.keep hG2).lt) | (go_at_call 9; refine (HWK.out _).mono ?_; rintro e w3 ⟨rfl, hG3⟩))
    have gz := (g0.t hG2).t hG3
    first | exact ⟨rfl, gz⟩ | (go_ret; exact ⟨rfl, gz⟩)
  by_cases hc4 : x2 < 0
  · go_wp2_with (first | (go_at_call 18; refine (HRD.out _ g0).mono ?_; rintro e w2 ⟨rfl, hG2⟩; clear m0 m1 m2 m3 m4 lm p0 p1 p2 lp; have m0 := (b0.keep hG2).cell 0; have m1 := (b0.keep hG2).cell 1; have m2 := (b0.keep hG2).cell 2; have m3 := (b0.keep hG2).cell 3; have m4 := (b0.keep hG2).cell 4; have lm := (b0.keep hG2).lt; have p0 := (b1.keep hG2).cell 0; have p1 := (b1.keep hG2).cell 1; have p2 := (b1.keep hG2).cell 2; have lp := (b1.keep hG2).lt) | (go_at_call 9; refine (HWK.out _).mono ?_; rintro e w3 ⟨rfl, hG3⟩))
    have gz := (g0.t hG2).t hG3
    first | exact ⟨rfl, gz⟩ | (go_ret; exact ⟨rfl, gz⟩)
  by_cases hc5 : ybds ≤ x2
  · go_wp2_with (first | (go_at_call 18; refine (HRD.out _ g0).mono ?_; rintro e w2 ⟨rfl, hG2⟩; clear m0 m1 m2 m3 m4 lm p0 p1 p2 lp; have m0 := (b0.keep hG2).cell 0; have m1 := (b0.keep hG2).cell 1; have m2 := (b0.keep hG2).cell 2; have m3 := (b0.keep hG2).cell 3; have m4 := (b0.keep hG2).cell 4; have lm := (b0.keep hG2).lt; have p0 := (b1.keep hG2).cell 0; have p1 := (b1.keep hG2).cell 1; have p2 := (b1.keep hG2).cell 2; have lp := (b1.keep hG2).lt) | (go_at_call 9; refine (HWK.out _).mono ?_; rintro e w3 ⟨rfl, hG3⟩))
    have gz := (g0.t hG2).t hG3
    first | exact ⟨rfl, gz⟩ | (go_ret; exact ⟨rfl, gz⟩)
  obtain ⟨hfar, hfe⟩ := HRE.out hVB
  obtain ⟨hvc, k, hk⟩ := folE_zero hfe
  obtain ⟨_, hq1, hq2, hq3, hq4, _, _, _⟩ := vcB_act hvc
  have hatw := HLA.out.at hfar ⟨hq1, hq2, hq3, hq4⟩
  have hb1 : cc.bks = ybks := by rw [HCC.out]
  have hb2 : cc.bds = ybds := by rw [HCC.out]
  have hac : cc.acts = yacts := by rw [HCC.out]
  have hcv : cc.v = #[.int .i64 ybks, .int .i64 ybds, .slice yaa yacts.length yac, .slice yda yduties.length ydc, .int .i64 yen] := by rw [HCC.out]; rfl
  have hN : cc.bds.toNat ≤ 12 := by omega
  obtain ⟨e24, e29, e23⟩ := sgl_q hk (x0 := x0) (x1 := x1) (x2 := x2) (by omega) (by omega) (by omega) (by omega) (by omega) (by omega)
  have H24 := Lib.hid (fun (W : World) (hW : G w W) => ins_k hk x0 x1 0 cc.bds.toNat rfl e24 W (hatw.keep hW))
  have H29 := Lib.hid (fun (W : World) (hW : G w W) => whe_k hk x0 x2 e29 W (hatw.keep hW))
  have H21 := Lib.hid (fun (hb : brk k.ps = []) (W : World) (hW : G w W) => bro_k hk hb W (hatw.keep hW))
  have H23 := Lib.hid (fun (W : World) (hW : G w W) => opn_k hk x1 0 e23 W (hatw.keep hW))
  have H15 := Lib.hid (fun (W : World) (hW : G w W) => alo_k hk W (hatw.keep hW))
  have H30 := Lib.hid (fun (W : World) (hW : G w W) => heard_any cc.acts cc.aa cc.ac W (hatw.keep hW).ra hatw.na)
  have hlen := insT_len k 0 x0 x1 hN
  have hbv : anyU (fun i => (insT k 0 x0 x1 cc.bds.toNat).getD i 0 == x2) (insT k 0 x0 x1 cc.bds.toNat).length = decide (whr k.past x0 x2 = x1) := by
    have := ins_whr k.past x0 x1 x2 cc.bds.toNat (by omega) (by omega)
    have e : insT k 0 x0 x1 cc.bds.toNat = insL k.past x0 x1 cc.bds.toNat := by unfold insT; rw [if_pos rfl]
    rw [e, this]
    by_cases h9 : whr k.past x0 x2 = x1
    · rw [decide_eq_true h9]; simpa using h9
    · rw [decide_eq_false h9]; simpa using h9
  have H26 := Lib.hid (fun (a : Option Addr) (cp : Nat) (W : World) (hI : IntsAt W a (insT k 0 x0 x1 cc.bds.toNat)) => in26_any (insT k 0 x0 x1 cc.bds.toNat) x2 a cp W hI hlen)
  rw [hbv] at H26
  have HSP := Lib.hid (fun hU hV => single_pure hk hU hV x1)
  have HHF := Lib.hid (hea_facts hk)
  have haa : cc.aa = yaa ∧ cc.ac = yac := by rw [HCC.out]; exact ⟨rfl, rfl⟩
  rw [hcv] at H24 H29 H21 H23 H15
  unfold HeaPost at H30
  rw [haa.1, haa.2, hac] at H30
  rw [hac] at HSP HHF
  rw [hb1] at HHF
  have HQ := Lib.hid (And.intro hq1 hq2)
  rw [hb1] at HQ
  generalize insT k 0 x0 x1 cc.bds.toNat = LI at *
  obtain ⟨r, hr⟩ : ∃ r, r = whr k.past x0 x2 := ⟨_, rfl⟩
  rw [← hr] at H29 H26
  have hbd : ∃ bv : Bool, decide (r = x1) = bv := ⟨_, rfl⟩
  obtain ⟨bv, hbw⟩ := hbd
  rw [hbw] at H26
  clear hVB hfar hfe hvc hatw HRE HLA hbv hr hcv hb1 hb2 hac hN e24 e29 e23 haa hq1 hq2 hq3 hq4 hlen HCC
  go_upto_region 4 with (first | (go_at_call 18; refine (HRD.out _ g0).mono ?_; rintro e w2 ⟨rfl, hG2⟩; clear m0 m1 m2 m3 m4 lm p0 p1 p2 lp; have m0 := (b0.keep hG2).cell 0; have m1 := (b0.keep hG2).cell 1; have m2 := (b0.keep hG2).cell 2; have m3 := (b0.keep hG2).cell 3; have m4 := (b0.keep hG2).cell 4; have lm := (b0.keep hG2).lt; have p0 := (b1.keep hG2).cell 0; have p1 := (b1.keep hG2).cell 1; have p2 := (b1.keep hG2).cell 2; have lp := (b1.keep hG2).lt; have g2 := g0.t hG2) | (go_at_call 24; refine (H24.out _ g2).mono ?_; rintro e w3 ⟨a1, c1, rfl, hr1, hG3⟩))
  have g3 := g2.t hG3
  have b03 := (b0.keep hG2).keep hG3
  have b13 := (b1.keep hG2).keep hG3
  clear m0 m1 m2 m3 m4 lm p0 p1 p2 lp
  have m0 := b03.cell 0
  have m1 := b03.cell 1
  have m2 := b03.cell 2
  have m3 := b03.cell 3
  have m4 := b03.cell 4
  have lm := b03.lt
  have p0 := b13.cell 0
  have p1 := b13.cell 1
  have p2 := b13.cell 2
  have lp := b13.lt
  go_upto_region 5 with (go_at_call 29; refine (H29.out _ g3).mono ?_; rintro e w4 ⟨rfl, hG4⟩)
  have g4 := g3.t hG4
  have b04 := b03.keep hG4
  have b14 := b13.keep hG4
  have HI4 := Lib.hid (hr1.below hG4)
  clear m0 m1 m2 m3 m4 lm p0 p1 p2 lp
  clear b03 b13 hr1 g2 g3 hG2 hG3 hG4 b0 b1 g0 HRD H24 H29
  refine wp_region_Y (S := fun W' => G w4 W') 16 17 rfl (by kernel_rfl) ((G.rf w4).d) (fun hS => ?_)
  have gg : G w4 w4.drew := (G.rf w4).d
  generalize w4.drew = WD at *
  refine wpAnyY_take (i := 0) (v := ?_) rfl (by kernel_rfl) (by kernel_rfl) (by kernel_rfl) (by kernel_rfl) (fun _ _ _ h => h) (Or.inl ⟨by kernel_rfl, ?_⟩) hS ?_
  rotate_left
  · intro w' hSw; go_simp; with_reducible rfl
  try simp only [Act.put, zzA, zzB, zzC, zzD, zzE, zzF]
  refine wpAnyY_take (i := 1) (v := ?_) rfl (by kernel_rfl) (by kernel_rfl) (by kernel_rfl) (by kernel_rfl) (fun _ _ _ h => h) (Or.inl ⟨by kernel_rfl, ?_⟩) hS ?_
  rotate_left
  · intro w' hSw; go_simp; with_reducible rfl
  try simp only [Act.put, zzA, zzB, zzC, zzD, zzE, zzF]
  refine wpAnyY_take (i := 2) (v := ?_) rfl (by kernel_rfl) (by kernel_rfl) (by kernel_rfl) (by kernel_rfl) (fun _ _ _ h => h) (Or.inl ⟨by kernel_rfl, ?_⟩) hS ?_
  rotate_left
  · intro w' hSw; go_simp; with_reducible rfl
  try simp only [Act.put, zzA, zzB, zzC, zzD, zzE, zzF]
  refine wpAnyY_take (i := 3) (v := ?_) rfl (by kernel_rfl) (by kernel_rfl) (by kernel_rfl) (by kernel_rfl) (fun _ _ _ h => h) (Or.inl ⟨by kernel_rfl, ?_⟩) hS ?_
  rotate_left
  · intro w' hSw; go_simp; with_reducible rfl
  try simp only [Act.put, zzA, zzB, zzC, zzD, zzE, zzF]
  refine wpAnyY_take (i := 4) (v := ?_) rfl (by kernel_rfl) (by kernel_rfl) (by kernel_rfl) (by kernel_rfl) (fun _ _ _ h => h) (Or.inl ⟨by kernel_rfl, ?_⟩) hS ?_
  rotate_left
  · intro w' hSw; go_simp; with_reducible rfl
  try simp only [Act.put, zzA, zzB, zzC, zzD, zzE, zzF]
  refine wpAnyY_take (i := 5) (v := ?_) rfl (by kernel_rfl) (by kernel_rfl) (by kernel_rfl) (by kernel_rfl) (fun _ _ _ h => h) (Or.inl ⟨by kernel_rfl, ?_⟩) hS ?_
  rotate_left
  · intro w' hSw; go_simp; with_reducible rfl
  try simp only [Act.put, zzA, zzB, zzC, zzD, zzE, zzF]
  refine wpAnyY_take (i := 6) (v := ?_) rfl (by kernel_rfl) (by kernel_rfl) (by kernel_rfl) (by kernel_rfl) (fun _ _ _ h => h) (Or.inl ⟨by kernel_rfl, ?_⟩) hS ?_
  rotate_left
  · intro w' hSw; go_simp; with_reducible rfl
  try simp only [Act.put, zzA, zzB, zzC, zzD, zzE, zzF]
  refine wpAnyY_take (i := 7) (v := ?_) rfl (by kernel_rfl) (by kernel_rfl) (by kernel_rfl) (by kernel_rfl) (fun _ _ _ h => h) (Or.inl ⟨by kernel_rfl, ?_⟩) hS ?_
  rotate_left
  · intro w' hSw; go_simp; with_reducible rfl
  try simp only [Act.put, zzA, zzB, zzC, zzD, zzE, zzF]
  refine wpAnyY_take (i := 8) (v := ?_) rfl (by kernel_rfl) (by kernel_rfl) (by kernel_rfl) (by kernel_rfl) (fun _ _ _ h => h) (Or.inl ⟨by kernel_rfl, ?_⟩) hS ?_
  rotate_left
  · intro w' hSw; have p1 := (b14.keep hSw).cell 1; have p2 := (b14.keep hSw).cell 2; have lp := (b14.keep hSw).lt; go_simp; with_reducible rfl
  try simp only [Act.put, zzA, zzB, zzC, zzD, zzE, zzF]
  refine wpAnyY_take (i := 9) (v := ?_) rfl (by kernel_rfl) (by kernel_rfl) (by kernel_rfl) (by kernel_rfl) (fun _ _ _ h => h) (Or.inl ⟨by kernel_rfl, ?_⟩) hS ?_
  rotate_left
  · intro w' hSw; have p1 := (b14.keep hSw).cell 1; have p2 := (b14.keep hSw).cell 2; have lp := (b14.keep hSw).lt; go_simp; with_reducible rfl
  try simp only [Act.put, zzA, zzB, zzC, zzD, zzE, zzF]
  refine wpAnyY_take (i := 11) (v := ?_) rfl (by kernel_rfl) (by kernel_rfl) (by kernel_rfl) (by kernel_rfl) (fun _ _ _ h => h) (Or.inl ⟨by kernel_rfl, ?_⟩) hS ?_
  rotate_left
  · intro w' hSw; go_simp; with_reducible rfl
  try simp only [Act.put, zzA, zzB, zzC, zzD, zzE, zzF]
  refine wpAnyY_take (i := 12) (v := ?_) rfl (by kernel_rfl) (by kernel_rfl) (by kernel_rfl) (by kernel_rfl) (fun _ _ _ h => h) (Or.inl ⟨by kernel_rfl, ?_⟩) hS ?_
  rotate_left
  · intro w' hSw; go_simp; with_reducible rfl
  try simp only [Act.put, zzA, zzB, zzC, zzD, zzE, zzF]
  refine wpAnyY_take (i := 13) (v := ?_) rfl (by kernel_rfl) (by kernel_rfl) (by kernel_rfl) (by kernel_rfl) (fun _ _ _ h => h) (Or.inl ⟨by kernel_rfl, ?_⟩) hS ?_
  rotate_left
  · intro w' hSw; have p1 := (b14.keep hSw).cell 1; have p2 := (b14.keep hSw).cell 2; have lp := (b14.keep hSw).lt; go_simp; with_reducible rfl
  try simp only [Act.put, zzA, zzB, zzC, zzD, zzE, zzF]
  refine wpAnyY_take (i := 14) (v := .bool bv) rfl (by kernel_rfl) (by kernel_rfl) (by kernel_rfl) (by kernel_rfl) (fun _ _ _ h => h) (Or.inl ⟨by kernel_rfl, ?_⟩) hS ?_
  · intro w9 hSw; go_simp <;> (first | with_reducible rfl | (rw [show (r == x1) = bv from hbw]; done) | (rw [← hbw]; rfl) | (rw [hbw]; done))
  try simp only [Act.put, zzA, zzB, zzC, zzD, zzE, zzF]
  refine wpAnyY_oneSW (i := 10) (by kernel_rfl) rfl (by kernel_rfl) (fun K10 hK10 => ?_)
  go_simp
  refine (H26.out a1 c1 _ (HI4.out.below gg)).mono ?_
  rintro e w5 ⟨rfl, hGc⟩
  refine hK10.out _ _ (gg.t hGc) (fun hS => ?_)
  replace gg := gg.t hGc
  clear hK10 hGc
  try simp only [Act.put, zzA, zzB, zzC, zzD, zzE, zzF]
  refine wpAnyY_take (i := 15) (v := .bool false) rfl (by kernel_rfl) (by kernel_rfl) (by kernel_rfl) (by kernel_rfl) (fun _ _ _ h => h) (Or.inl ⟨by kernel_rfl, ?_⟩) hS ?_
  · intro w9 hSw; go_simp <;> (first | with_reducible rfl | rfl | (simp; done) | (cases bv <;> rfl))
  try simp only [Act.put, zzA, zzB, zzC, zzD, zzE, zzF]
  refine wpAnyY_oneW (i := 16) (by kernel_rfl) rfl (by kernel_rfl) (by kernel_rfl) (fun K16 hK16 => ?_)
  go_simp
  refine hK16.out _ _ ?_
  clear hK16
  try simp only [Act.put, zzA, zzB, zzC, zzD, zzE, zzF]
  refine wpAnyY_done (by kernel_rfl) ?_ _
  have g5 := g4.t gg
  have b05 := b04.keep gg
  have b15 := b14.keep gg
  clear hS gg g4 b04 b14 HI4 H26
  obtain ⟨Bn, rfl⟩ := Int.eq_ofNat_of_zero_le (show 0 ≤ ybks by have := HQ.out.1; omega)
  have hB6 : Bn ≤ 6 := by have := HQ.out.2; omega
  obtain ⟨i0, hi0, hz0, hz1, hz2⟩ := info_parts info3
  have hmk : ∀ W : World, (Instr.makeSlice 26 (.int .i64 (Bn : Nat)) (.int .i64 (Bn : Nat))).run Tryz.prog W = .ok (.slice (some ⟨W.heap.size, 0, none⟩) Bn Bn) (W.alloc (.cells (mkZ Bn) 3)) := fun W => by
    have h := run_makeSlice (P := Tryz.prog) W 26 3 i0 (.int .i64 0) Tryz.underlying26 hi0 hz0 .i64 .i64 (Bn : Nat) (Bn : Nat) (by omega) (Int.le_refl _) (by rw [hz1]; omega) (by rw [hz2]; omega) (by omega)
    rw [hz1, show ((Bn : Nat) : Int).toNat = Bn by omega, Nat.mul_one] at h
    exact h
  have m0 := b05.cell 0
  have m1 := b05.cell 1
  have m2 := b05.cell 2
  have m3 := b05.cell 3
  have m4 := b05.cell 4
  have lm := b05.lt
  have p0 := b15.cell 0
  have p1 := b15.cell 1
  have p2 := b15.cell 2
  have lp := b15.lt
  go_upto_region 8 with fail
  clear m0 m1 m2 m3 m4 lm p0 p1 p2 lp
  have gL := (G.rf _).a (.cells (mkZ Bn) 3) (a := w5)
  have hRL := RI.made w5 Bn
  have b06 := b05.keep gL
  have b16 := b15.keep gL
  obtain ⟨LB, hLB⟩ : ∃ LB, LB = w5.heap.size := ⟨_, rfl⟩
  change Code.wp _ _ _ _ (w5.alloc (.cells (mkZ Bn) 3))
  rw [← hLB] at hRL ⊢
  have hLw : w.heap.size + 1 < LB := by rw [hLB]; exact b15.lt
  clear hLB b05 b15
  have g6 := g5.t gL
  clear g5 gL
  generalize w5.alloc (.cells (mkZ Bn) 3) = w6 at *
  have hL6 := hRL.lt
  have m0 := b06.cell 0
  have m1 := b06.cell 1
  have m2 := b06.cell 2
  have m3 := b06.cell 3
  have m4 := b06.cell 4
  have lm := b06.lt
  have p0 := b16.cell 0
  have p1 := b16.cell 1
  have p2 := b16.cell 2
  have lp := b16.lt
  go_upto_region 10 with (go_at_call 30; refine (H30.out _ g6).mono ?_; rintro e w7 ⟨v7, rfl, hown, hG7⟩; clear m0 m1 m2 m3 m4 lm p0 p1 p2 lp; have m0 := (b06.keep hG7).cell 0; have m1 := (b06.keep hG7).cell 1; have m2 := (b06.keep hG7).cell 2; have m3 := (b06.keep hG7).cell 3; have m4 := (b06.keep hG7).cell 4; have lm := (b06.keep hG7).lt; have p0 := (b16.keep hG7).cell 0; have p1 := (b16.keep hG7).cell 1; have p2 := (b16.keep hG7).cell 2; have lp := (b16.keep hG7).lt)
  clear m0 m1 m2 m3 m4 lm p0 p1 p2 lp
  have gS := (G.rf _).a (.cells (mkZ Bn) 3) (a := w7)
  have hRS := RI.made w7 Bn
  have b08 := (b06.keep hG7).keep gS
  have b18 := (b16.keep hG7).keep gS
  replace hRL := (hRL.keep hG7).keep gS
  have HOW := Lib.hid (own_G hown gS)
  have hlv := hRL.lt
  obtain ⟨aw, cw, hv7, _⟩ := own_ac hown
  subst hv7
  obtain ⟨SB, hSB⟩ : ∃ SB, SB = w7.heap.size := ⟨_, rfl⟩
  change Code.wp _ _ _ _ (w7.alloc (.cells (mkZ Bn) 3))
  rw [← hSB] at hRS ⊢
  have hSw : LB < SB := by rw [hSB]; exact Nat.lt_of_lt_of_le hL6 hG7.size
  clear hSB b06 b16 hown
  have g8 := (g6.t hG7).t gS
  clear g6 gS hG7 hlv
  obtain ⟨B7, hB7⟩ : ∃ B7, B7 = w6.heap.size := ⟨_, rfl⟩
  rw [← hB7] at HOW
  clear hB7
  generalize w7.alloc (.cells (mkZ Bn) 3) = w8 at *
  obtain ⟨A, hA⟩ : ∃ A, A = heaL yacts := ⟨_, rfl⟩
  rw [← hA] at HOW HHF ⊢
  obtain ⟨hAe, hAl, hAk⟩ := HHF.out
  rw [← hAe] at HSP
  have HAK := Lib.hid hAk
  clear hA hAe hAk HHF
  have HB0 := Lib.hid b08
  have HB1 := Lib.hid b18
  have HRL := Lib.hid hRL
  have HRS := Lib.hid hRS
  have hlB : LB < w8.heap.size := hRL.lt
  have hlS : SB < w8.heap.size := hRS.lt
  clear b08 b18 hRL hRS
  have HNE : Hid (∀ g, (Value.slice aw A.length cw).ownBlock = some g → ¬ (g = LB ∨ g = SB)) := fun g hg h => by
    obtain ⟨cu, hcu, _⟩ := HRL.out
    obtain ⟨cv, hcv, _⟩ := HRS.out
    rcases h with rfl | rfl
    · exact own_blk_ne HOW.out hcu (by decide) hg.symm
    · exact own_blk_ne HOW.out hcv (by decide) hg.symm
  have HRA : Hid (∀ X, Fr (fun g => g = LB ∨ g = SB) w8 X → RowE Ac.v 8 X aw A) := fun X hX => by
    obtain ⟨a9, c9, e9, r9⟩ := own_ac (own_Fr HOW.out hX HNE.out)
    injection e9 with e9 _ _
    rw [e9]
    exact r9
  have HGW : Hid (∀ X, Fr (fun g => g = LB ∨ g = SB) w8 X → G w X) := fun X hX => ((G.fr (R := fun _ => False) g8).t2 hX (fun i hi e => by rcases e with e | e <;> omega)).toG (fun _ _ h => h)
  clear HNE HOW g8
  go_wp2_with fail
  go_loopw [12] (fun vi wr => ∃ i : Nat, i ≤ A.length ∧ vi = .int .i64 i ∧ Hid (sngU A i) ∧ Hid (sngV A i) ∧ Hid (RI wr LB Bn (sg (A.take i)).2) ∧ Hid (RI wr SB Bn (sg (A.take i)).1) ∧ Hid (Fr (fun g => g = LB ∨ g = SB) w8 wr)) (fun vi _ => A.length - (intOf vi).toNat)
  case atStart => exact ⟨0, Nat.zero_le _, rfl, fun b hb => by omega, fun b hb => by omega, HRL.out, HRS.out, Fr.rf _ _⟩
  case round =>
    clear HRL HRS
    obtain ⟨i, hi, rfl, HU, HV, HL, HS, HFR⟩ := hrel
    obtain ⟨wo, rfl⟩ : ∃ wo, wo = wr := ⟨_, rfl⟩
    by_cases hlt : i < A.length
    · have hii : (i : Int) < (A.length : Int) := by omega
      rcases HRA.out wo HFR.out with h9 | ⟨go, oo, hao, lgo, hco⟩
      · exfalso; omega
      have hz := hco i hlt
      have HTK := Lib.hid (sg_take A hlt)
      have hxm : A.getD i default ∈ A := by
        rw [List.getD_eq_getElem?_getD, List.getElem?_eq_getElem hlt]
        exact List.getElem_mem hlt
      obtain ⟨hk1, hk5, hb0, hbB⟩ := HAK.out _ hxm
      have HX : Hid (A.getD i default = A.getD i default) := rfl
      obtain ⟨x, hx⟩ : ∃ x, x = A.getD i default := ⟨_, rfl⟩
      have HX := Lib.hid hx
      rw [← hx] at hz HTK hk1 hk5 hb0 hbB
      clear hx hxm hco
      obtain ⟨zid, ztm, zkd, zbk, zbd, zm1, zm2, zsl⟩ := x
      dsimp only at hk1 hk5 hb0 hbB
      unfold Ac.v at hz
      obtain ⟨bn, rfl⟩ := Int.eq_ofNat_of_zero_le hb0
      have hbn : bn < Bn := by omega
      have hbni : ((bn : Nat) : Int) < (Bn : Int) := by omega
      have z0 : wo.cell? ⟨go, oo + i * 8, none⟩ = some (.int .i64 zid) := hz 0 (by omega)
      have z1 : wo.cell? ⟨go, oo + i * 8 + 1, none⟩ = some (.int .i64 ztm) := hz 1 (by omega)
      have z2 : wo.cell? ⟨go, oo + i * 8 + 2, none⟩ = some (.int .i64 zkd) := hz 2 (by omega)
      have z3 : wo.cell? ⟨go, oo + i * 8 + 3, none⟩ = some (.int .i64 (bn : Nat)) := hz 3 (by omega)
      have z4 : wo.cell? ⟨go, oo + i * 8 + 4, none⟩ = some (.int .i64 zbd) := hz 4 (by omega)
      have z5 : wo.cell? ⟨go, oo + i * 8 + 5, none⟩ = some (.int .i64 zm1) := hz 5 (by omega)
      have z6 : wo.cell? ⟨go, oo + i * 8 + 6, none⟩ = some (.int .i64 zm2) := hz 6 (by omega)
      have z7 : wo.cell? ⟨go, oo + i * 8 + 7, none⟩ = some (.int .i64 zsl) := hz 7 (by omega)
      have bB0 : Blk (wo.alloc (.cells #[.int .i64 zid, .int .i64 ztm, .int .i64 zkd, .int .i64 (bn : Nat), .int .i64 zbd, .int .i64 zm1, .int .i64 zm2, .int .i64 zsl] 54)) wo.heap.size 54 #[.int .i64 zid, .int .i64 ztm, .int .i64 zkd, .int .i64 (bn : Nat), .int .i64 zbd, .int .i64 zm1, .int .i64 zm2, .int .i64 zsl] := Blk.new _ _ _
      have gB : G wo (wo.alloc (.cells #[.int .i64 zid, .int .i64 ztm, .int .i64 zkd, .int .i64 (bn : Nat), .int .i64 zbd, .int .i64 zm1, .int .i64 zm2, .int .i64 zsl] 54)) := (G.rf _).a _
      have HFR9 := Lib.hid (HFR.out.g gB)
      have HL9 := Lib.hid (HL.out.keep gB)
      have HS9 := Lib.hid (HS.out.keep gB)
      have hAO := hao
      clear hz hb0 hbB HL HS HFR gB
      obtain rfl : aw = some ⟨go, oo, none⟩ := hAO
      clear hao
      go_upto_region 14 with fail
      clear z0 z1 z2 z3 z4 z5 z6 z7
      change Code.wp _ _ _ _ (wo.alloc (.cells #[.int .i64 zid, .int .i64 ztm, .int .i64 zkd, .int .i64 (bn : Nat), .int .i64 zbd, .int .i64 zm1, .int .i64 zm2, .int .i64 zsl] 54))
      obtain ⟨KB, hKB⟩ : ∃ KB, KB = wo.heap.size := ⟨_, rfl⟩
      rw [← hKB] at bB0 ⊢
      have bB := bB0
      clear hKB bB0
      generalize wo.alloc (.cells #[.int .i64 zid, .int .i64 ztm, .int .i64 zkd, .int .i64 (bn : Nat), .int .i64 zbd, .int .i64 zm1, .int .i64 zm2, .int .i64 zsl] 54) = w9 at *
      go_wp2_with fail
      go_loopw [14] (fun vk wr => ∃ k : Nat, k ≤ i ∧ vk = .int .i64 k ∧ Hid (∀ a, a < k → ¬ (zkd = 3 ∧ (A.getD a default).kd = 3 ∧ (A.getD a default).sl = zsl)) ∧ Hid (G w9 wr)) (fun vk _ => i - (intOf vk).toNat)
      case atStart => exact ⟨0, Nat.zero_le _, rfl, fun a ha => by omega, G.rf _⟩
      case round =>
        obtain ⟨k, hk9, rfl, HNO, HGI⟩ := hrel
        obtain ⟨wi, rfl⟩ : ∃ wi, wi = wr := ⟨_, rfl⟩
        have FI := HFR9.out.g HGI.out
        by_cases hlk : k < i
        · have hki : (k : Int) < (i : Int) := by omega
          have hkA : (k : Int) < (A.length : Int) := by omega
          rcases HRA.out wi FI with h9 | ⟨gy, oy, hay, lgy, hcy⟩
          · exfalso; omega
          have hu2 : ∀ W, G wi W → W.cell? ⟨gy, oy + k * 8 + 2, none⟩ = some (.int .i64 (A.getD k default).kd) := fun W hW => ((bcellB hW).1 gy _ lgy).trans (hcy k (by omega) 2 (by omega))
          have hu7 : ∀ W, G wi W → W.cell? ⟨gy, oy + k * 8 + 7, none⟩ = some (.int .i64 (A.getD k default).sl) := fun W hW => ((bcellB hW).1 gy _ lgy).trans (hcy k (by omega) 7 (by omega))
          have HWHY0 : Hid (∀ p : Prop, p = ¬ (zkd = 3 ∧ (A.getD k default).kd = 3 ∧ (A.getD k default).sl = zsl) → p = ¬ (zkd = 3 ∧ (A.getD k default).kd = 3 ∧ (A.getD k default).sl = zsl)) := fun _ h => h
          obtain ⟨yk, hyk⟩ : ∃ y, y = (A.getD k default).kd := ⟨_, rfl⟩
          obtain ⟨ys, hys⟩ : ∃ y, y = (A.getD k default).sl := ⟨_, rfl⟩
          rw [← hyk] at hu2
          rw [← hys] at hu7
          have HYK := Lib.hid hyk
          have HYS := Lib.hid hys
          have HAY := Lib.hid hay
          clear hcy HWHY0 hyk hys
          obtain ⟨rfl, rfl⟩ : go = gy ∧ oo = oy := by
            have e := HAY.out
            injection e with e
            injection e with e1 e2
            exact ⟨e1, e2⟩
          clear HAY hay
          by_cases e1 : zkd = 3
          · have hb1 : (zkd == 3) = true := by simpa using e1
            by_cases e2 : yk = 3
            · have hb2 : (yk == 3) = true := by simpa using e2
              by_cases e3 : ys = zsl
              · have hb3 : (ys == zsl) = true := by simpa using e3
                clear e1 e2 e3
                go_upto_region 17 with fail
                refine wp_region_Y (S := fun W' => G wi W') 20 21 rfl (by kernel_rfl) ((G.rf wi).d) (fun hS => ?_)
                have gd : G wi wi.drew := (G.rf wi).d
                generalize wi.drew = WI at *
                refine wpAnyY_take (i := 0) (v := ?_) rfl (by kernel_rfl) (by kernel_rfl) (by kernel_rfl) (by kernel_rfl) (fun _ _ _ h => h) (Or.inl ⟨by kernel_rfl, ?_⟩) hS ?_
                rotate_left
                · intro w' hSw; have q2 := (bB.keep (HGI.out.t hSw)).cell 2; have q7 := (bB.keep (HGI.out.t hSw)).cell 7; have ql := (bB.keep (HGI.out.t hSw)).lt; go_simp; with_reducible rfl
                try simp only [Act.put, zzA, zzB, zzC, zzD, zzE, zzF]
                refine wpAnyY_take (i := 1) (v := ?_) rfl (by kernel_rfl) (by kernel_rfl) (by kernel_rfl) (by kernel_rfl) (fun _ _ _ h => h) (Or.inl ⟨by kernel_rfl, ?_⟩) hS ?_
                rotate_left
                · intro w' hSw; have q2 := (bB.keep (HGI.out.t hSw)).cell 2; have q7 := (bB.keep (HGI.out.t hSw)).cell 7; have ql := (bB.keep (HGI.out.t hSw)).lt; go_simp; with_reducible rfl
                try simp only [Act.put, zzA, zzB, zzC, zzD, zzE, zzF]
                refine wpAnyY_take (i := 2) (v := .bool true) rfl (by kernel_rfl) (by kernel_rfl) (by kernel_rfl) (by kernel_rfl) (fun _ _ _ h => h) (Or.inl ⟨by kernel_rfl, ?_⟩) hS ?_
                · intro w9 hSw; go_simp <;> (first | with_reducible rfl | rfl | (simp [*]; done))
                try simp only [Act.put, zzA, zzB, zzC, zzD, zzE, zzF]
                refine wpAnyY_take (i := 3) (v := ?_) rfl (by kernel_rfl) (by kernel_rfl) (by kernel_rfl) (by kernel_rfl) (fun _ _ _ h => h) (Or.inl ⟨by kernel_rfl, ?_⟩) hS ?_
                rotate_left
                · intro w' hSw; go_simp; with_reducible rfl
                try simp only [Act.put, zzA, zzB, zzC, zzD, zzE, zzF]
                refine wpAnyY_take (i := 4) (v := ?_) rfl (by kernel_rfl) (by kernel_rfl) (by kernel_rfl) (by kernel_rfl) (fun _ _ _ h => h) (Or.inl ⟨by kernel_rfl, ?_⟩) hS ?_
                rotate_left
                · intro w' hSw; go_simp; with_reducible rfl
                try simp only [Act.put, zzA, zzB, zzC, zzD, zzE, zzF]
                refine wpAnyY_take (i := 5) (v := ?_) rfl (by kernel_rfl) (by kernel_rfl) (by kernel_rfl) (by kernel_rfl) (fun _ _ _ h => h) (Or.inl ⟨by kernel_rfl, ?_⟩) hS ?_
                rotate_left
                · intro w' hSw; go_simp; with_reducible rfl
                try simp only [Act.put, zzA, zzB, zzC, zzD, zzE, zzF]
                refine wpAnyY_take (i := 6) (v := ?_) rfl (by kernel_rfl) (by kernel_rfl) (by kernel_rfl) (by kernel_rfl) (fun _ _ _ h => h) (Or.inl ⟨by kernel_rfl, ?_⟩) hS ?_
                rotate_left
                · intro w' hSw; go_simp; with_reducible rfl
                try simp only [Act.put, zzA, zzB, zzC, zzD, zzE, zzF]
                refine wpAnyY_take (i := 7) (v := ?_) rfl (by kernel_rfl) (by kernel_rfl) (by kernel_rfl) (by kernel_rfl) (fun _ _ _ h => h) (Or.inl ⟨by kernel_rfl, ?_⟩) hS ?_
                rotate_left
                · intro w' hSw; go_simp; with_reducible rfl
                try simp only [Act.put, zzA, zzB, zzC, zzD, zzE, zzF]
                refine wpAnyY_take (i := 8) (v := ?_) rfl (by kernel_rfl) (by kernel_rfl) (by kernel_rfl) (by kernel_rfl) (fun _ _ _ h => h) (Or.inl ⟨by kernel_rfl, ?_⟩) hS ?_
                rotate_left
                · intro w' hSw; have u2 := hu2 _ hSw; have u7 := hu7 _ hSw; have ul := Nat.lt_of_lt_of_le lgy hSw.size; go_simp; with_reducible rfl
                try simp only [Act.put, zzA, zzB, zzC, zzD, zzE, zzF]
                refine wpAnyY_take (i := 9) (v := .bool true) rfl (by kernel_rfl) (by kernel_rfl) (by kernel_rfl) (by kernel_rfl) (fun _ _ _ h => h) (Or.inl ⟨by kernel_rfl, ?_⟩) hS ?_
                · intro w9 hSw; go_simp <;> (first | with_reducible rfl | rfl | (simp [*]; done))
                try simp only [Act.put, zzA, zzB, zzC, zzD, zzE, zzF]
                refine wpAnyY_take (i := 10) (v := ?_) rfl (by kernel_rfl) (by kernel_rfl) (by kernel_rfl) (by kernel_rfl) (fun _ _ _ h => h) (Or.inl ⟨by kernel_rfl, ?_⟩) hS ?_
                rotate_left
                · intro w' hSw; go_simp; with_reducible rfl
                try simp only [Act.put, zzA, zzB, zzC, zzD, zzE, zzF]
                refine wpAnyY_take (i := 11) (v := ?_) rfl (by kernel_rfl) (by kernel_rfl) (by kernel_rfl) (by kernel_rfl) (fun _ _ _ h => h) (Or.inl ⟨by kernel_rfl, ?_⟩) hS ?_
                rotate_left
                · intro w' hSw; go_simp; with_reducible rfl
                try simp only [Act.put, zzA, zzB, zzC, zzD, zzE, zzF]
                refine wpAnyY_take (i := 12) (v := ?_) rfl (by kernel_rfl) (by kernel_rfl) (by kernel_rfl) (by kernel_rfl) (fun _ _ _ h => h) (Or.inl ⟨by kernel_rfl, ?_⟩) hS ?_
                rotate_left
                · intro w' hSw; go_simp; with_reducible rfl
                try simp only [Act.put, zzA, zzB, zzC, zzD, zzE, zzF]
                refine wpAnyY_take (i := 13) (v := ?_) rfl (by kernel_rfl) (by kernel_rfl) (by kernel_rfl) (by kernel_rfl) (fun _ _ _ h => h) (Or.inl ⟨by kernel_rfl, ?_⟩) hS ?_
                rotate_left
                · intro w' hSw; go_simp; with_reducible rfl
                try simp only [Act.put, zzA, zzB, zzC, zzD, zzE, zzF]
                refine wpAnyY_take (i := 14) (v := ?_) rfl (by kernel_rfl) (by kernel_rfl) (by kernel_rfl) (by kernel_rfl) (fun _ _ _ h => h) (Or.inl ⟨by kernel_rfl, ?_⟩) hS ?_
                rotate_left
                · intro w' hSw; go_simp; with_reducible rfl
                try simp only [Act.put, zzA, zzB, zzC, zzD, zzE, zzF]
                refine wpAnyY_take (i := 15) (v := ?_) rfl (by kernel_rfl) (by kernel_rfl) (by kernel_rfl) (by kernel_rfl) (fun _ _ _ h => h) (Or.inl ⟨by kernel_rfl, ?_⟩) hS ?_
                rotate_left
                · intro w' hSw; go_simp; with_reducible rfl
                try simp only [Act.put, zzA, zzB, zzC, zzD, zzE, zzF]
                refine wpAnyY_take (i := 16) (v := ?_) rfl (by kernel_rfl) (by kernel_rfl) (by kernel_rfl) (by kernel_rfl) (fun _ _ _ h => h) (Or.inl ⟨by kernel_rfl, ?_⟩) hS ?_
                rotate_left
                · intro w' hSw; have u2 := hu2 _ hSw; have u7 := hu7 _ hSw; have ul := Nat.lt_of_lt_of_le lgy hSw.size; go_simp; with_reducible rfl
                try simp only [Act.put, zzA, zzB, zzC, zzD, zzE, zzF]
                refine wpAnyY_take (i := 17) (v := ?_) rfl (by kernel_rfl) (by kernel_rfl) (by kernel_rfl) (by kernel_rfl) (fun _ _ _ h => h) (Or.inl ⟨by kernel_rfl, ?_⟩) hS ?_
                rotate_left
                · intro w' hSw; have q2 := (bB.keep (HGI.out.t hSw)).cell 2; have q7 := (bB.keep (HGI.out.t hSw)).cell 7; have ql := (bB.keep (HGI.out.t hSw)).lt; go_simp; with_reducible rfl
                try simp only [Act.put, zzA, zzB, zzC, zzD, zzE, zzF]
                refine wpAnyY_take (i := 18) (v := ?_) rfl (by kernel_rfl) (by kernel_rfl) (by kernel_rfl) (by kernel_rfl) (fun _ _ _ h => h) (Or.inl ⟨by kernel_rfl, ?_⟩) hS ?_
                rotate_left
                · intro w' hSw; have q2 := (bB.keep (HGI.out.t hSw)).cell 2; have q7 := (bB.keep (HGI.out.t hSw)).cell 7; have ql := (bB.keep (HGI.out.t hSw)).lt; go_simp; with_reducible rfl
                try simp only [Act.put, zzA, zzB, zzC, zzD, zzE, zzF]
                refine wpAnyY_take (i := 19) (v := .bool true) rfl (by kernel_rfl) (by kernel_rfl) (by kernel_rfl) (by kernel_rfl) (fun _ _ _ h => h) (Or.inl ⟨by kernel_rfl, ?_⟩) hS ?_
                · intro w9 hSw; go_simp <;> (first | with_reducible rfl | rfl | (simp [*]; done))
                try simp only [Act.put, zzA, zzB, zzC, zzD, zzE, zzF]
                refine wpAnyY_oneW (i := 20) (by kernel_rfl) rfl (by kernel_rfl) (by kernel_rfl) (fun K20 hK20 => ?_)
                go_simp
                refine hK20.out _ _ ?_
                clear hK20
                try simp only [Act.put, zzA, zzB, zzC, zzD, zzE, zzF]
                refine wpAnyY_done (by kernel_rfl) ?_ _
                clear hS
                have gR := (HGW.out _ (FI.g gd))
                go_wp2_with (go_at_call 9; refine (HWK.out _).mono ?_; rintro e v9 ⟨rfl, hv9⟩)
                have gz := gR.t hv9
                first | exact ⟨rfl, gz⟩ | (go_ret; exact ⟨rfl, gz⟩)
              · have hb3 : (ys == zsl) = false := by simpa using e3
                have HWHY : Hid (¬ (zkd = 3 ∧ (A.getD k default).kd = 3 ∧ (A.getD k default).sl = zsl)) := fun h => e3 (by rw [HYS.out]; exact h.2.2)
                clear e1 e2 e3
                go_upto_region 17 with fail
                refine wp_region_Y (S := fun W' => G wi W') 20 21 rfl (by kernel_rfl) ((G.rf wi).d) (fun hS => ?_)
                have gd : G wi wi.drew := (G.rf wi).d
                generalize wi.drew = WI at *
                refine wpAnyY_take (i := 0) (v := ?_) rfl (by kernel_rfl) (by kernel_rfl) (by kernel_rfl) (by kernel_rfl) (fun _ _ _ h => h) (Or.inl ⟨by kernel_rfl, ?_⟩) hS ?_
                rotate_left
                · intro w' hSw; have q2 := (bB.keep (HGI.out.t hSw)).cell 2; have q7 := (bB.keep (HGI.out.t hSw)).cell 7; have ql := (bB.keep (HGI.out.t hSw)).lt; go_simp; with_reducible rfl
                try simp only [Act.put, zzA, zzB, zzC, zzD, zzE, zzF]
                refine wpAnyY_take (i := 1) (v := ?_) rfl (by kernel_rfl) (by kernel_rfl) (by kernel_rfl) (by kernel_rfl) (fun _ _ _ h => h) (Or.inl ⟨by kernel_rfl, ?_⟩) hS ?_
                rotate_left
                · intro w' hSw; have q2 := (bB.keep (HGI.out.t hSw)).cell 2; have q7 := (bB.keep (HGI.out.t hSw)).cell 7; have ql := (bB.keep (HGI.out.t hSw)).lt; go_simp; with_reducible rfl
                try simp only [Act.put, zzA, zzB, zzC, zzD, zzE, zzF]
                refine wpAnyY_take (i := 2) (v := .bool true) rfl (by kernel_rfl) (by kernel_rfl) (by kernel_rfl) (by kernel_rfl) (fun _ _ _ h => h) (Or.inl ⟨by kernel_rfl, ?_⟩) hS ?_
                · intro w9 hSw; go_simp <;> (first | with_reducible rfl | rfl | (simp [*]; done))
                try simp only [Act.put, zzA, zzB, zzC, zzD, zzE, zzF]
                refine wpAnyY_take (i := 3) (v := ?_) rfl (by kernel_rfl) (by kernel_rfl) (by kernel_rfl) (by kernel_rfl) (fun _ _ _ h => h) (Or.inl ⟨by kernel_rfl, ?_⟩) hS ?_
                rotate_left
                · intro w' hSw; go_simp; with_reducible rfl
                try simp only [Act.put, zzA, zzB, zzC, zzD, zzE, zzF]
                refine wpAnyY_take (i := 4) (v := ?_) rfl (by kernel_rfl) (by kernel_rfl) (by kernel_rfl) (by kernel_rfl) (fun _ _ _ h => h) (Or.inl ⟨by kernel_rfl, ?_⟩) hS ?_
                rotate_left
                · intro w' hSw; go_simp; with_reducible rfl
                try simp only [Act.put, zzA, zzB, zzC, zzD, zzE, zzF]
                refine wpAnyY_take (i := 5) (v := ?_) rfl (by kernel_rfl) (by kernel_rfl) (by kernel_rfl) (by kernel_rfl) (fun _ _ _ h => h) (Or.inl ⟨by kernel_rfl, ?_⟩) hS ?_
                rotate_left
                · intro w' hSw; go_simp; with_reducible rfl
                try simp only [Act.put, zzA, zzB, zzC, zzD, zzE, zzF]
                refine wpAnyY_take (i := 6) (v := ?_) rfl (by kernel_rfl) (by kernel_rfl) (by kernel_rfl) (by kernel_rfl) (fun _ _ _ h => h) (Or.inl ⟨by kernel_rfl, ?_⟩) hS ?_
                rotate_left
                · intro w' hSw; go_simp; with_reducible rfl
                try simp only [Act.put, zzA, zzB, zzC, zzD, zzE, zzF]
                refine wpAnyY_take (i := 7) (v := ?_) rfl (by kernel_rfl) (by kernel_rfl) (by kernel_rfl) (by kernel_rfl) (fun _ _ _ h => h) (Or.inl ⟨by kernel_rfl, ?_⟩) hS ?_
                rotate_left
                · intro w' hSw; go_simp; with_reducible rfl
                try simp only [Act.put, zzA, zzB, zzC, zzD, zzE, zzF]
                refine wpAnyY_take (i := 8) (v := ?_) rfl (by kernel_rfl) (by kernel_rfl) (by kernel_rfl) (by kernel_rfl) (fun _ _ _ h => h) (Or.inl ⟨by kernel_rfl, ?_⟩) hS ?_
                rotate_left
                · intro w' hSw; have u2 := hu2 _ hSw; have u7 := hu7 _ hSw; have ul := Nat.lt_of_lt_of_le lgy hSw.size; go_simp; with_reducible rfl
                try simp only [Act.put, zzA, zzB, zzC, zzD, zzE, zzF]
                refine wpAnyY_take (i := 9) (v := .bool true) rfl (by kernel_rfl) (by kernel_rfl) (by kernel_rfl) (by kernel_rfl) (fun _ _ _ h => h) (Or.inl ⟨by kernel_rfl, ?_⟩) hS ?_
                · intro w9 hSw; go_simp <;> (first | with_reducible rfl | rfl | (simp [*]; done))
                try simp only [Act.put, zzA, zzB, zzC, zzD, zzE, zzF]
                refine wpAnyY_take (i := 10) (v := ?_) rfl (by kernel_rfl) (by kernel_rfl) (by kernel_rfl) (by kernel_rfl) (fun _ _ _ h => h) (Or.inl ⟨by kernel_rfl, ?_⟩) hS ?_
                rotate_left
                · intro w' hSw; go_simp; with_reducible rfl
                try simp only [Act.put, zzA, zzB, zzC, zzD, zzE, zzF]
                refine wpAnyY_take (i := 11) (v := ?_) rfl (by kernel_rfl) (by kernel_rfl) (by kernel_rfl) (by kernel_rfl) (fun _ _ _ h => h) (Or.inl ⟨by kernel_rfl, ?_⟩) hS ?_
                rotate_left
                · intro w' hSw; go_simp; with_reducible rfl
                try simp only [Act.put, zzA, zzB, zzC, zzD, zzE, zzF]
                refine wpAnyY_take (i := 12) (v := ?_) rfl (by kernel_rfl) (by kernel_rfl) (by kernel_rfl) (by kernel_rfl) (fun _ _ _ h => h) (Or.inl ⟨by kernel_rfl, ?_⟩) hS ?_
                rotate_left
                · intro w' hSw; go_simp; with_reducible rfl
                try simp only [Act.put, zzA, zzB, zzC, zzD, zzE, zzF]
                refine wpAnyY_take (i := 13) (v := ?_) rfl (by kernel_rfl) (by kernel_rfl) (by kernel_rfl) (by kernel_rfl) (fun _ _ _ h => h) (Or.inl ⟨by kernel_rfl, ?_⟩) hS ?_
                rotate_left
                · intro w' hSw; go_simp; with_reducible rfl
                try simp only [Act.put, zzA, zzB, zzC, zzD, zzE, zzF]
                refine wpAnyY_take (i := 14) (v := ?_) rfl (by kernel_rfl) (by kernel_rfl) (by kernel_rfl) (by kernel_rfl) (fun _ _ _ h => h) (Or.inl ⟨by kernel_rfl, ?_⟩) hS ?_
                rotate_left
                · intro w' hSw; go_simp; with_reducible rfl
                try simp only [Act.put, zzA, zzB, zzC, zzD, zzE, zzF]
                refine wpAnyY_take (i := 15) (v := ?_) rfl (by kernel_rfl) (by kernel_rfl) (by kernel_rfl) (by kernel_rfl) (fun _ _ _ h => h) (Or.inl ⟨by kernel_rfl, ?_⟩) hS ?_
                rotate_left
                · intro w' hSw; go_simp; with_reducible rfl
                try simp only [Act.put, zzA, zzB, zzC, zzD, zzE, zzF]
                refine wpAnyY_take (i := 16) (v := ?_) rfl (by kernel_rfl) (by kernel_rfl) (by kernel_rfl) (by kernel_rfl) (fun _ _ _ h => h) (Or.inl ⟨by kernel_rfl, ?_⟩) hS ?_
                rotate_left
                · intro w' hSw; have u2 := hu2 _ hSw; have u7 := hu7 _ hSw; have ul := Nat.lt_of_lt_of_le lgy hSw.size; go_simp; with_reducible rfl
                try simp only [Act.put, zzA, zzB, zzC, zzD, zzE, zzF]
                refine wpAnyY_take (i := 17) (v := ?_) rfl (by kernel_rfl) (by kernel_rfl) (by kernel_rfl) (by kernel_rfl) (fun _ _ _ h => h) (Or.inl ⟨by kernel_rfl, ?_⟩) hS ?_
                rotate_left
                · intro w' hSw; have q2 := (bB.keep (HGI.out.t hSw)).cell 2; have q7 := (bB.keep (HGI.out.t hSw)).cell 7; have ql := (bB.keep (HGI.out.t hSw)).lt; go_simp; with_reducible rfl
                try simp only [Act.put, zzA, zzB, zzC, zzD, zzE, zzF]
                refine wpAnyY_take (i := 18) (v := ?_) rfl (by kernel_rfl) (by kernel_rfl) (by kernel_rfl) (by kernel_rfl) (fun _ _ _ h => h) (Or.inl ⟨by kernel_rfl, ?_⟩) hS ?_
                rotate_left
                · intro w' hSw; have q2 := (bB.keep (HGI.out.t hSw)).cell 2; have q7 := (bB.keep (HGI.out.t hSw)).cell 7; have ql := (bB.keep (HGI.out.t hSw)).lt; go_simp; with_reducible rfl
                try simp only [Act.put, zzA, zzB, zzC, zzD, zzE, zzF]
                refine wpAnyY_take (i := 19) (v := .bool false) rfl (by kernel_rfl) (by kernel_rfl) (by kernel_rfl) (by kernel_rfl) (fun _ _ _ h => h) (Or.inl ⟨by kernel_rfl, ?_⟩) hS ?_
                · intro w9 hSw; go_simp <;> (first | with_reducible rfl | rfl | (simp [*]; done))
                try simp only [Act.put, zzA, zzB, zzC, zzD, zzE, zzF]
                refine wpAnyY_oneW (i := 20) (by kernel_rfl) rfl (by kernel_rfl) (by kernel_rfl) (fun K20 hK20 => ?_)
                go_simp
                refine hK20.out _ _ ?_
                clear hK20
                try simp only [Act.put, zzA, zzB, zzC, zzD, zzE, zzF]
                refine wpAnyY_done (by kernel_rfl) ?_ _
                clear hS
                go_wp2_with fail
                go_roundw
                case rel => exact ⟨k + 1, by omega, by go_num, fun a ha => by
                  rcases Nat.lt_or_ge a k with h9 | h9
                  · exact HNO.out a h9
                  · obtain rfl : a = k := by omega
                    exact HWHY.out, HGI.out.t gd⟩
                case measure => simp [intOf] <;> omega
            · have hb2 : (yk == 3) = false := by simpa using e2
              have HWHY : Hid (¬ (zkd = 3 ∧ (A.getD k default).kd = 3 ∧ (A.getD k default).sl = zsl)) := fun h => e2 (by rw [HYK.out]; exact h.2.1)
              clear e1 e2
              go_upto_region 17 with fail
              refine wp_region_Y (S := fun W' => G wi W') 20 21 rfl (by kernel_rfl) ((G.rf wi).d) (fun hS => ?_)
              have gd : G wi wi.drew := (G.rf wi).d
              generalize wi.drew = WI at *
              refine wpAnyY_take (i := 0) (v := ?_) rfl (by kernel_rfl) (by kernel_rfl) (by kernel_rfl) (by kernel_rfl) (fun _ _ _ h => h) (Or.inl ⟨by kernel_rfl, ?_⟩) hS ?_
              rotate_left
              · intro w' hSw; have q2 := (bB.keep (HGI.out.t hSw)).cell 2; have q7 := (bB.keep (HGI.out.t hSw)).cell 7; have ql := (bB.keep (HGI.out.t hSw)).lt; go_simp; with_reducible rfl
              try simp only [Act.put, zzA, zzB, zzC, zzD, zzE, zzF]
              refine wpAnyY_take (i := 1) (v := ?_) rfl (by kernel_rfl) (by kernel_rfl) (by kernel_rfl) (by kernel_rfl) (fun _ _ _ h => h) (Or.inl ⟨by kernel_rfl, ?_⟩) hS ?_
              rotate_left
              · intro w' hSw; have q2 := (bB.keep (HGI.out.t hSw)).cell 2; have q7 := (bB.keep (HGI.out.t hSw)).cell 7; have ql := (bB.keep (HGI.out.t hSw)).lt; go_simp; with_reducible rfl
              try simp only [Act.put, zzA, zzB, zzC, zzD, zzE, zzF]
              refine wpAnyY_take (i := 2) (v := .bool true) rfl (by kernel_rfl) (by kernel_rfl) (by kernel_rfl) (by kernel_rfl) (fun _ _ _ h => h) (Or.inl ⟨by kernel_rfl, ?_⟩) hS ?_
              · intro w9 hSw; go_simp <;> (first | with_reducible rfl | rfl | (simp [*]; done))
              try simp only [Act.put, zzA, zzB, zzC, zzD, zzE, zzF]
              refine wpAnyY_take (i := 3) (v := ?_) rfl (by kernel_rfl) (by kernel_rfl) (by kernel_rfl) (by kernel_rfl) (fun _ _ _ h => h) (Or.inl ⟨by kernel_rfl, ?_⟩) hS ?_
              rotate_left
              · intro w' hSw; go_simp; with_reducible rfl
              try simp only [Act.put, zzA, zzB, zzC, zzD, zzE, zzF]
              refine wpAnyY_take (i := 4) (v := ?_) rfl (by kernel_rfl) (by kernel_rfl) (by kernel_rfl) (by kernel_rfl) (fun _ _ _ h => h) (Or.inl ⟨by kernel_rfl, ?_⟩) hS ?_
              rotate_left
              · intro w' hSw; go_simp; with_reducible rfl
              try simp only [Act.put, zzA, zzB, zzC, zzD, zzE, zzF]
              refine wpAnyY_take (i := 5) (v := ?_) rfl (by kernel_rfl) (by kernel_rfl) (by kernel_rfl) (by kernel_rfl) (fun _ _ _ h => h) (Or.inl ⟨by kernel_rfl, ?_⟩) hS ?_
              rotate_left
              · intro w' hSw; go_simp; with_reducible rfl
              try simp only [Act.put, zzA, zzB, zzC, zzD, zzE, zzF]
              refine wpAnyY_take (i := 6) (v := ?_) rfl (by kernel_rfl) (by kernel_rfl) (by kernel_rfl) (by kernel_rfl) (fun _ _ _ h => h) (Or.inl ⟨by kernel_rfl, ?_⟩) hS ?_
              rotate_left
              · intro w' hSw; go_simp; with_reducible rfl
              try simp only [Act.put, zzA, zzB, zzC, zzD, zzE, zzF]
              refine wpAnyY_take (i := 7) (v := ?_) rfl (by kernel_rfl) (by kernel_rfl) (by kernel_rfl) (by kernel_rfl) (fun _ _ _ h => h) (Or.inl ⟨by kernel_rfl, ?_⟩) hS ?_
              rotate_left
              · intro w' hSw; go_simp; with_reducible rfl
              try simp only [Act.put, zzA, zzB, zzC, zzD, zzE, zzF]
              refine wpAnyY_take (i := 8) (v := ?_) rfl (by kernel_rfl) (by kernel_rfl) (by kernel_rfl) (by kernel_rfl) (fun _ _ _ h => h) (Or.inl ⟨by kernel_rfl, ?_⟩) hS ?_
              rotate_left
              · intro w' hSw; have u2 := hu2 _ hSw; have u7 := hu7 _ hSw; have ul := Nat.lt_of_lt_of_le lgy hSw.size; go_simp; with_reducible rfl
              try simp only [Act.put, zzA, zzB, zzC, zzD, zzE, zzF]
              refine wpAnyY_take (i := 9) (v := .bool false) rfl (by kernel_rfl) (by kernel_rfl) (by kernel_rfl) (by kernel_rfl) (fun _ _ _ h => h) (Or.inl ⟨by kernel_rfl, ?_⟩) hS ?_
              · intro w9 hSw; go_simp <;> (first | with_reducible rfl | rfl | (simp [*]; done))
              try simp only [Act.put, zzA, zzB, zzC, zzD, zzE, zzF]
              refine wpAnyY_take (i := 10) (v := ?_) rfl (by kernel_rfl) (by kernel_rfl) (by kernel_rfl) (by kernel_rfl) (fun _ _ _ h => h) (Or.inl ⟨by kernel_rfl, ?_⟩) hS ?_
              rotate_left
              · intro w' hSw; go_simp; with_reducible rfl
              try simp only [Act.put, zzA, zzB, zzC, zzD, zzE, zzF]
              refine wpAnyY_take (i := 11) (v := ?_) rfl (by kernel_rfl) (by kernel_rfl) (by kernel_rfl) (by kernel_rfl) (fun _ _ _ h => h) (Or.inl ⟨by kernel_rfl, ?_⟩) hS ?_
              rotate_left
              · intro w' hSw; go_simp; with_reducible rfl
              try simp only [Act.put, zzA, zzB, zzC, zzD, zzE, zzF]
              refine wpAnyY_take (i := 12) (v := undef) rfl (by kernel_rfl) (by kernel_rfl) (by kernel_rfl) (by kernel_rfl) (fun _ _ _ h => h) (Or.inr ⟨by kernel_rfl, rfl⟩) hS ?_
              try simp only [Act.put, zzA, zzB, zzC, zzD, zzE, zzF]
              refine wpAnyY_take (i := 13) (v := undef) rfl (by kernel_rfl) (by kernel_rfl) (by kernel_rfl) (by kernel_rfl) (fun _ _ _ h => h) (Or.inr ⟨by kernel_rfl, rfl⟩) hS ?_
              try simp only [Act.put, zzA, zzB, zzC, zzD, zzE, zzF]
              refine wpAnyY_take (i := 14) (v := undef) rfl (by kernel_rfl) (by kernel_rfl) (by kernel_rfl) (by kernel_rfl) (fun _ _ _ h => h) (Or.inr ⟨by kernel_rfl, rfl⟩) hS ?_
              try simp only [Act.put, zzA, zzB, zzC, zzD, zzE, zzF]
              refine wpAnyY_take (i := 15) (v := undef) rfl (by kernel_rfl) (by kernel_rfl) (by kernel_rfl) (by kernel_rfl) (fun _ _ _ h => h) (Or.inr ⟨by kernel_rfl, rfl⟩) hS ?_
              try simp only [Act.put, zzA, zzB, zzC, zzD, zzE, zzF]
              refine wpAnyY_take (i := 16) (v := undef) rfl (by kernel_rfl) (by kernel_rfl) (by kernel_rfl) (by kernel_rfl) (fun _ _ _ h => h) (Or.inr ⟨by kernel_rfl, rfl⟩) hS ?_
              try simp only [Act.put, zzA, zzB, zzC, zzD, zzE, zzF]
              refine wpAnyY_take (i := 17) (v := undef) rfl (by kernel_rfl) (by kernel_rfl) (by kernel_rfl) (by kernel_rfl) (fun _ _ _ h => h) (Or.inr ⟨by kernel_rfl, rfl⟩) hS ?_
              try simp only [Act.put, zzA, zzB, zzC, zzD, zzE, zzF]
              refine wpAnyY_take (i := 18) (v := undef) rfl (by kernel_rfl) (by kernel_rfl) (by kernel_rfl) (by kernel_rfl) (fun _ _ _ h => h) (Or.inr ⟨by kernel_rfl, rfl⟩) hS ?_
              try simp only [Act.put, zzA, zzB, zzC, zzD, zzE, zzF]
              refine wpAnyY_take (i := 19) (v := undef) rfl (by kernel_rfl) (by kernel_rfl) (by kernel_rfl) (by kernel_rfl) (fun _ _ _ h => h) (Or.inr ⟨by kernel_rfl, rfl⟩) hS ?_
              try simp only [Act.put, zzA, zzB, zzC, zzD, zzE, zzF]
              refine wpAnyY_oneW (i := 20) (by kernel_rfl) rfl (by kernel_rfl) (by kernel_rfl) (fun K20 hK20 => ?_)
              go_simp
              refine hK20.out _ _ ?_
              clear hK20
              try simp only [Act.put, zzA, zzB, zzC, zzD, zzE, zzF]
              refine wpAnyY_done (by kernel_rfl) ?_ _
              clear hS
              go_wp2_with fail
              go_roundw
              case rel => exact ⟨k + 1, by omega, by go_num, fun a ha => by
                rcases Nat.lt_or_ge a k with h9 | h9
                · exact HNO.out a h9
                · obtain rfl : a = k := by omega
                  exact HWHY.out, HGI.out.t gd⟩
              case measure => simp [intOf] <;> omega
          · have hb1 : (zkd == 3) = false := by simpa using e1
            have HWHY : Hid (¬ (zkd = 3 ∧ (A.getD k default).kd = 3 ∧ (A.getD k default).sl = zsl)) := fun h => e1 h.1
            clear e1
            go_upto_region 17 with fail
            refine wp_region_Y (S := fun W' => G wi W') 20 21 rfl (by kernel_rfl) ((G.rf wi).d) (fun hS => ?_)
            have gd : G wi wi.drew := (G.rf wi).d
            generalize wi.drew = WI at *
            refine wpAnyY_take (i := 0) (v := ?_) rfl (by kernel_rfl) (by kernel_rfl) (by kernel_rfl) (by kernel_rfl) (fun _ _ _ h => h) (Or.inl ⟨by kernel_rfl, ?_⟩) hS ?_
            rotate_left
            · intro w' hSw; have q2 := (bB.keep (HGI.out.t hSw)).cell 2; have q7 := (bB.keep (HGI.out.t hSw)).cell 7; have ql := (bB.keep (HGI.out.t hSw)).lt; go_simp; with_reducible rfl
            try simp only [Act.put, zzA, zzB, zzC, zzD, zzE, zzF]
            refine wpAnyY_take (i := 1) (v := ?_) rfl (by kernel_rfl) (by kernel_rfl) (by kernel_rfl) (by kernel_rfl) (fun _ _ _ h => h) (Or.inl ⟨by kernel_rfl, ?_⟩) hS ?_
            rotate_left
            · intro w' hSw; have q2 := (bB.keep (HGI.out.t hSw)).cell 2; have q7 := (bB.keep (HGI.out.t hSw)).cell 7; have ql := (bB.keep (HGI.out.t hSw)).lt; go_simp; with_reducible rfl
            try simp only [Act.put, zzA, zzB, zzC, zzD, zzE, zzF]
            refine wpAnyY_take (i := 2) (v := .bool false) rfl (by kernel_rfl) (by kernel_rfl) (by kernel_rfl) (by kernel_rfl) (fun _ _ _ h => h) (Or.inl ⟨by kernel_rfl, ?_⟩) hS ?_
            · intro w9 hSw; go_simp <;> (first | with_reducible rfl | rfl | (simp [*]; done))
            try simp only [Act.put, zzA, zzB, zzC, zzD, zzE, zzF]
            refine wpAnyY_take (i := 3) (v := ?_) rfl (by kernel_rfl) (by kernel_rfl) (by kernel_rfl) (by kernel_rfl) (fun _ _ _ h => h) (Or.inl ⟨by kernel_rfl, ?_⟩) hS ?_
            rotate_left
            · intro w' hSw; go_simp; with_reducible rfl
            try simp only [Act.put, zzA, zzB, zzC, zzD, zzE, zzF]
            refine wpAnyY_take (i := 4) (v := undef) rfl (by kernel_rfl) (by kernel_rfl) (by kernel_rfl) (by kernel_rfl) (fun _ _ _ h => h) (Or.inr ⟨by kernel_rfl, rfl⟩) hS ?_
            try simp only [Act.put, zzA, zzB, zzC, zzD, zzE, zzF]
            refine wpAnyY_take (i := 5) (v := undef) rfl (by kernel_rfl) (by kernel_rfl) (by kernel_rfl) (by kernel_rfl) (fun _ _ _ h => h) (Or.inr ⟨by kernel_rfl, rfl⟩) hS ?_
            try simp only [Act.put, zzA, zzB, zzC, zzD, zzE, zzF]
            refine wpAnyY_take (i := 6) (v := undef) rfl (by kernel_rfl) (by kernel_rfl) (by kernel_rfl) (by kernel_rfl) (fun _ _ _ h => h) (Or.inr ⟨by kernel_rfl, rfl⟩) hS ?_
            try simp only [Act.put, zzA, zzB, zzC, zzD, zzE, zzF]
            refine wpAnyY_take (i := 7) (v := undef) rfl (by kernel_rfl) (by kernel_rfl) (by kernel_rfl) (by kernel_rfl) (fun _ _ _ h => h) (Or.inr ⟨by kernel_rfl, rfl⟩) hS ?_
            try simp only [Act.put, zzA, zzB, zzC, zzD, zzE, zzF]
            refine wpAnyY_take (i := 8) (v := undef) rfl (by kernel_rfl) (by kernel_rfl) (by kernel_rfl) (by kernel_rfl) (fun _ _ _ h => h) (Or.inr ⟨by kernel_rfl, rfl⟩) hS ?_
            try simp only [Act.put, zzA, zzB, zzC, zzD, zzE, zzF]
            refine wpAnyY_take (i := 9) (v := undef) rfl (by kernel_rfl) (by kernel_rfl) (by kernel_rfl) (by kernel_rfl) (fun _ _ _ h => h) (Or.inr ⟨by kernel_rfl, rfl⟩) hS ?_
            try simp only [Act.put, zzA, zzB, zzC, zzD, zzE, zzF]
            refine wpAnyY_take (i := 10) (v := ?_) rfl (by kernel_rfl) (by kernel_rfl) (by kernel_rfl) (by kernel_rfl) (fun _ _ _ h => h) (Or.inl ⟨by kernel_rfl, ?_⟩) hS ?_
            rotate_left
            · intro w' hSw; go_simp; with_reducible rfl
            try simp only [Act.put, zzA, zzB, zzC, zzD, zzE, zzF]
            refine wpAnyY_take (i := 11) (v := ?_) rfl (by kernel_rfl) (by kernel_rfl) (by kernel_rfl) (by kernel_rfl) (fun _ _ _ h => h) (Or.inl ⟨by kernel_rfl, ?_⟩) hS ?_
            rotate_left
            · intro w' hSw; go_simp; with_reducible rfl
            try simp only [Act.put, zzA, zzB, zzC, zzD, zzE, zzF]
            refine wpAnyY_take (i := 12) (v := undef) rfl (by kernel_rfl) (by kernel_rfl) (by kernel_rfl) (by kernel_rfl) (fun _ _ _ h => h) (Or.inr ⟨by kernel_rfl, rfl⟩) hS ?_
            try simp only [Act.put, zzA, zzB, zzC, zzD, zzE, zzF]
            refine wpAnyY_take (i := 13) (v := undef) rfl (by kernel_rfl) (by kernel_rfl) (by kernel_rfl) (by kernel_rfl) (fun _ _ _ h => h) (Or.inr ⟨by kernel_rfl, rfl⟩) hS ?_
            try simp only [Act.put, zzA, zzB, zzC, zzD, zzE, zzF]
            refine wpAnyY_take (i := 14) (v := undef) rfl (by kernel_rfl) (by kernel_rfl) (by kernel_rfl) (by kernel_rfl) (fun _ _ _ h => h) (Or.inr ⟨by kernel_rfl, rfl⟩) hS ?_
            try simp only [Act.put, zzA, zzB, zzC, zzD, zzE, zzF]
            refine wpAnyY_take (i := 15) (v := undef) rfl (by kernel_rfl) (by kernel_rfl) (by kernel_rfl) (by kernel_rfl) (fun _ _ _ h => h) (Or.inr ⟨by kernel_rfl, rfl⟩) hS ?_
            try simp only [Act.put, zzA, zzB, zzC, zzD, zzE, zzF]
            refine wpAnyY_take (i := 16) (v := undef) rfl (by kernel_rfl) (by kernel_rfl) (by kernel_rfl) (by kernel_rfl) (fun _ _ _ h => h) (Or.inr ⟨by kernel_rfl, rfl⟩) hS ?_
            try simp only [Act.put, zzA, zzB, zzC, zzD, zzE, zzF]
            refine wpAnyY_take (i := 17) (v := undef) rfl (by kernel_rfl) (by kernel_rfl) (by kernel_rfl) (by kernel_rfl) (fun _ _ _ h => h) (Or.inr ⟨by kernel_rfl, rfl⟩) hS ?_
            try simp only [Act.put, zzA, zzB, zzC, zzD, zzE, zzF]
            refine wpAnyY_take (i := 18) (v := undef) rfl (by kernel_rfl) (by kernel_rfl) (by kernel_rfl) (by kernel_rfl) (fun _ _ _ h => h) (Or.inr ⟨by kernel_rfl, rfl⟩) hS ?_
            try simp only [Act.put, zzA, zzB, zzC, zzD, zzE, zzF]
            refine wpAnyY_take (i := 19) (v := undef) rfl (by kernel_rfl) (by kernel_rfl) (by kernel_rfl) (by kernel_rfl) (fun _ _ _ h => h) (Or.inr ⟨by kernel_rfl, rfl⟩) hS ?_
            try simp only [Act.put, zzA, zzB, zzC, zzD, zzE, zzF]
            refine wpAnyY_oneW (i := 20) (by kernel_rfl) rfl (by kernel_rfl) (by kernel_rfl) (fun K20 hK20 => ?_)
            go_simp
            refine hK20.out _ _ ?_
            clear hK20
            try simp only [Act.put, zzA, zzB, zzC, zzD, zzE, zzF]
            refine wpAnyY_done (by kernel_rfl) ?_ _
            clear hS
            go_wp2_with fail
            go_roundw
            case rel => exact ⟨k + 1, by omega, by go_num, fun a ha => by
              rcases Nat.lt_or_ge a k with h9 | h9
              · exact HNO.out a h9
              · obtain rfl : a = k := by omega
                exact HWHY.out, HGI.out.t gd⟩
            case measure => simp [intOf] <;> omega
        · obtain rfl : k = i := by omega
          have hki : ¬ (k : Int) < (k : Int) := by omega
          have HX3 : Hid (∀ a, a < k → ¬ ((A.getD k default).kd = 3 ∧ (A.getD a default).kd = 3 ∧ (A.getD a default).sl = (A.getD k default).sl)) := fun a ha => by
            have h9 := HNO.out a ha
            rw [← HX.out]
            exact h9
          have HUN := Lib.hid (HU.out.next HX3.out)
          have hRL9 := HL9.out.keep HGI.out
          have hRS9 := HS9.out.keep HGI.out
          have bB9 := bB.keep HGI.out
          clear HNO HX3 HU
          have q1 : wi.cell? ⟨KB, 1, none⟩ = some (.int .i64 ztm) := bB9.cell 1
          have q2 : wi.cell? ⟨KB, 2, none⟩ = some (.int .i64 zkd) := bB9.cell 2
          have q3 : wi.cell? ⟨KB, 3, none⟩ = some (.int .i64 (bn : Nat)) := bB9.cell 3
          have q7 : wi.cell? ⟨KB, 7, none⟩ = some (.int .i64 zsl) := bB9.cell 7
          have ql := bB9.lt
          have hkd : (zkd = 1 ∨ zkd = 2) ∨ zkd = 3 ∨ (zkd = 4 ∨ zkd = 5) := by omega
          have HVV := HV
          rcases hkd with hkd | rfl | hkd
          · have HVN : Hid (sngV A (k + 1)) := HVV.out.next (by
              rw [← HX.out]
              intro h9
              have h8 : zkd = 4 ∨ zkd = 5 := h9
              omega)
            have HSG : Hid (sg (A.take (k + 1)) = sg (A.take k)) := by
              show _ = _
              rw [HTK.out]
              unfold sgS
              rw [if_neg (show ¬ zkd = 3 by omega), if_neg (show ¬ (zkd = 4 ∨ zkd = 5) by omega)]
            have HRL2 := Lib.hid hRL9
            have HRS2 := Lib.hid hRS9
            clear hRL9 hRS9
            rcases hkd with rfl | rfl
            · go_wp2_with fail
              go_roundw
              case rel => exact ⟨k + 1, by omega, by go_num, HUN.out, HVN.out, by rw [HSG.out]; exact HRL2.out, by rw [HSG.out]; exact HRS2.out, FI⟩
              case measure => simp [intOf] <;> omega
            · go_wp2_with fail
              go_roundw
              case rel => exact ⟨k + 1, by omega, by go_num, HUN.out, HVN.out, by rw [HSG.out]; exact HRL2.out, by rw [HSG.out]; exact HRS2.out, FI⟩
              case measure => simp [intOf] <;> omega
          · have HVN : Hid (sngV A (k + 1)) := HVV.out.next (by
              rw [← HX.out]
              intro h9
              have h8 : (3 : Int) = 4 ∨ (3 : Int) = 5 := h9
              omega)
            have HSG : Hid (sg (A.take (k + 1)) = (up (sg (A.take k)).1 (bn : Nat) zsl, (sg (A.take k)).2)) := by
              show _ = _
              rw [HTK.out]
              rfl
            have s0 := hRS9.cell hbn
            have s1 := hRS9.frozen bn
            have s2 := hRS9.lt
            have HRL2 := Lib.hid (hRL9.far (p := ⟨SB, bn, none⟩) (show LB ≠ SB by omega) (.int .i64 zsl))
            have HRS2 := Lib.hid (hRS9.put hbn zsl)
            clear hRL9 hRS9
            go_wp2_with fail
            go_roundw
            case rel => exact ⟨k + 1, by omega, by go_num, HUN.out, HVN.out, by rw [HSG.out]; exact HRL2.out, by rw [HSG.out]; exact HRS2.out, FI.s (p := ⟨SB, bn, none⟩) (.inl (.inr rfl)) _⟩
            case measure => simp [intOf] <;> omega
          · have HSG : Hid (sg (A.take (k + 1)) = ((sg (A.take k)).1, up (sg (A.take k)).2 (bn : Nat) ztm)) := by
              show _ = _
              rw [HTK.out]
              unfold sgS
              rw [if_neg (show ¬ zkd = 3 by omega), if_pos hkd]
              rfl
            obtain ⟨sv, hsv⟩ : ∃ s, s = (sg (A.take k)).1 (bn : Nat) := ⟨_, rfl⟩
            have HSV := Lib.hid hsv
            have hu0 : ∀ W, G wi W → W.cell? ⟨SB, bn, none⟩ = some (.int .i64 sv) ∧ SB < W.heap.size := fun W hW => ⟨by rw [hsv]; exact (hRS9.keep hW).cell hbn, (hRS9.keep hW).lt⟩
            have hub : ∀ W, G wi W → W.cell? ⟨KB, 7, none⟩ = some (.int .i64 zsl) ∧ W.cell? ⟨KB, 3, none⟩ = some (.int .i64 (bn : Nat)) ∧ KB < W.heap.size := fun W hW => ⟨(bB9.keep hW).cell 7, (bB9.keep hW).cell 3, (bB9.keep hW).lt⟩
            have HRL2 := Lib.hid hRL9
            have HRS2 := Lib.hid hRS9
            have HB9 := Lib.hid bB9
            clear hRL9 hRS9 hsv bB9
            by_cases hse : zsl = sv
            · have HVN : Hid (sngV A (k + 1)) := HVV.out.next (by
                rw [← HX.out]
                intro h9
                exact hse.trans HSV.out)
              have hb4 : (zsl == sv) = true := by simpa using hse
              clear hse
              rcases hkd with rfl | rfl
              · go_upto_region 24 with fail
                refine wp_region_Y (S := fun W' => G wi W') 7 8 rfl (by kernel_rfl) ((G.rf wi).d) (fun hS => ?_)
                have gd : G wi wi.drew := (G.rf wi).d
                generalize wi.drew = WI at *
                refine wpAnyY_take (i := 0) (v := ?_) rfl (by kernel_rfl) (by kernel_rfl) (by kernel_rfl) (by kernel_rfl) (fun _ _ _ h => h) (Or.inl ⟨by kernel_rfl, ?_⟩) hS ?_
                rotate_left
                · intro w' hSw; go_simp; with_reducible rfl
                try simp only [Act.put, zzA, zzB, zzC, zzD, zzE, zzF]
                refine wpAnyY_take (i := 1) (v := ?_) rfl (by kernel_rfl) (by kernel_rfl) (by kernel_rfl) (by kernel_rfl) (fun _ _ _ h => h) (Or.inl ⟨by kernel_rfl, ?_⟩) hS ?_
                rotate_left
                · intro w' hSw; obtain ⟨hy1, hy2, hy3⟩ := hub _ hSw; go_simp; with_reducible rfl
                try simp only [Act.put, zzA, zzB, zzC, zzD, zzE, zzF]
                refine wpAnyY_take (i := 2) (v := ?_) rfl (by kernel_rfl) (by kernel_rfl) (by kernel_rfl) (by kernel_rfl) (fun _ _ _ h => h) (Or.inl ⟨by kernel_rfl, ?_⟩) hS ?_
                rotate_left
                · intro w' hSw; go_simp; with_reducible rfl
                try simp only [Act.put, zzA, zzB, zzC, zzD, zzE, zzF]
                refine wpAnyY_take (i := 3) (v := ?_) rfl (by kernel_rfl) (by kernel_rfl) (by kernel_rfl) (by kernel_rfl) (fun _ _ _ h => h) (Or.inl ⟨by kernel_rfl, ?_⟩) hS ?_
                rotate_left
                · intro w' hSw; go_simp; with_reducible rfl
                try simp only [Act.put, zzA, zzB, zzC, zzD, zzE, zzF]
                refine wpAnyY_take (i := 4) (v := ?_) rfl (by kernel_rfl) (by kernel_rfl) (by kernel_rfl) (by kernel_rfl) (fun _ _ _ h => h) (Or.inl ⟨by kernel_rfl, ?_⟩) hS ?_
                rotate_left
                · intro w' hSw; obtain ⟨hy1, hy2, hy3⟩ := hub _ hSw; go_simp; with_reducible rfl
                try simp only [Act.put, zzA, zzB, zzC, zzD, zzE, zzF]
                refine wpAnyY_take (i := 5) (v := ?_) rfl (by kernel_rfl) (by kernel_rfl) (by kernel_rfl) (by kernel_rfl) (fun _ _ _ h => h) (Or.inl ⟨by kernel_rfl, ?_⟩) hS ?_
                rotate_left
                · intro w' hSw; go_simp; with_reducible rfl
                try simp only [Act.put, zzA, zzB, zzC, zzD, zzE, zzF]
                refine wpAnyY_take (i := 6) (v := ?_) rfl (by kernel_rfl) (by kernel_rfl) (by kernel_rfl) (by kernel_rfl) (fun _ _ _ h => h) (Or.inl ⟨by kernel_rfl, ?_⟩) hS ?_
                rotate_left
                · intro w' hSw; have hx0 := hu0 _ hSw; obtain ⟨hx1, hx2⟩ := hx0; go_simp; with_reducible rfl
                try simp only [Act.put, zzA, zzB, zzC, zzD, zzE, zzF]
                refine wpAnyY_oneW (i := 7) (by kernel_rfl) rfl (by kernel_rfl) (by kernel_rfl) (fun K7 hK7 => ?_)
                have hne7 : (decide (zsl = sv)) = true := by rw [← hb4]; rfl
                go_simp
                refine hK7.out _ _ ?_
                clear hK7
                try simp only [Act.put, zzA, zzB, zzC, zzD, zzE, zzF]
                refine wpAnyY_done (by kernel_rfl) ?_ _
                clear hS q1 q2 q3 q7 ql
                have q1 : WI.cell? ⟨KB, 1, none⟩ = some (.int .i64 ztm) := (HB9.out.keep gd).cell 1
                have q3 : WI.cell? ⟨KB, 3, none⟩ = some (.int .i64 (bn : Nat)) := (HB9.out.keep gd).cell 3
                have ql := (HB9.out.keep gd).lt
                have hRL3 := HRL2.out.keep gd
                have s0 := hRL3.cell hbn
                have s1 := hRL3.frozen bn
                have s2 := hRL3.lt
                have HRS3 := Lib.hid ((HRS2.out.keep gd).far (p := ⟨LB, bn, none⟩) (show SB ≠ LB by omega) (.int .i64 ztm))
                have HRL3 := Lib.hid (hRL3.put hbn ztm)
                have F3 := FI.g gd
                clear hRL3
                go_wp2_with fail
                go_roundw
                case rel => exact ⟨k + 1, by omega, by go_num, HUN.out, HVN.out, by rw [HSG.out]; exact HRL3.out, by rw [HSG.out]; exact HRS3.out, F3.s (p := ⟨LB, bn, none⟩) (.inl (.inl rfl)) _⟩
                case measure => simp [intOf] <;> omega
              · go_upto_region 24 with fail
                refine wp_region_Y (S := fun W' => G wi W') 7 8 rfl (by kernel_rfl) ((G.rf wi).d) (fun hS => ?_)
                have gd : G wi wi.drew := (G.rf wi).d
                generalize wi.drew = WI at *
                refine wpAnyY_take (i := 0) (v := ?_) rfl (by kernel_rfl) (by kernel_rfl) (by kernel_rfl) (by kernel_rfl) (fun _ _ _ h => h) (Or.inl ⟨by kernel_rfl, ?_⟩) hS ?_
                rotate_left
                · intro w' hSw; go_simp; with_reducible rfl
                try simp only [Act.put, zzA, zzB, zzC, zzD, zzE, zzF]
                refine wpAnyY_take (i := 1) (v := ?_) rfl (by kernel_rfl) (by kernel_rfl) (by kernel_rfl) (by kernel_rfl) (fun _ _ _ h => h) (Or.inl ⟨by kernel_rfl, ?_⟩) hS ?_
                rotate_left
                · intro w' hSw; obtain ⟨hy1, hy2, hy3⟩ := hub _ hSw; go_simp; with_reducible rfl
                try simp only [Act.put, zzA, zzB, zzC, zzD, zzE, zzF]
                refine wpAnyY_take (i := 2) (v := ?_) rfl (by kernel_rfl) (by kernel_rfl) (by kernel_rfl) (by kernel_rfl) (fun _ _ _ h => h) (Or.inl ⟨by kernel_rfl, ?_⟩) hS ?_
                rotate_left
                · intro w' hSw; go_simp; with_reducible rfl
                try simp only [Act.put, zzA, zzB, zzC, zzD, zzE, zzF]
                refine wpAnyY_take (i := 3) (v := ?_) rfl (by kernel_rfl) (by kernel_rfl) (by kernel_rfl) (by kernel_rfl) (fun _ _ _ h => h) (Or.inl ⟨by kernel_rfl, ?_⟩) hS ?_
                rotate_left
                · intro w' hSw; go_simp; with_reducible rfl
                try simp only [Act.put, zzA, zzB, zzC, zzD, zzE, zzF]
                refine wpAnyY_take (i := 4) (v := ?_) rfl (by kernel_rfl) (by kernel_rfl) (by kernel_rfl) (by kernel_rfl) (fun _ _ _ h => h) (Or.inl ⟨by kernel_rfl, ?_⟩) hS ?_
                rotate_left
                · intro w' hSw; obtain ⟨hy1, hy2, hy3⟩ := hub _ hSw; go_simp; with_reducible rfl
                try simp only [Act.put, zzA, zzB, zzC, zzD, zzE, zzF]
                refine wpAnyY_take (i := 5) (v := ?_) rfl (by kernel_rfl) (by kernel_rfl) (by kernel_rfl) (by kernel_rfl) (fun _ _ _ h => h) (Or.inl ⟨by kernel_rfl, ?_⟩) hS ?_
                rotate_left
                · intro w' hSw; go_simp; with_reducible rfl
                try simp only [Act.put, zzA, zzB, zzC, zzD, zzE, zzF]
                refine wpAnyY_take (i := 6) (v := ?_) rfl (by kernel_rfl) (by kernel_rfl) (by kernel_rfl) (by kernel_rfl) (fun _ _ _ h => h) (Or.inl ⟨by kernel_rfl, ?_⟩) hS ?_
                rotate_left
                · intro w' hSw; have hx0 := hu0 _ hSw; obtain ⟨hx1, hx2⟩ := hx0; go_simp; with_reducible rfl
                try simp only [Act.put, zzA, zzB, zzC, zzD, zzE, zzF]
                refine wpAnyY_oneW (i := 7) (by kernel_rfl) rfl (by kernel_rfl) (by kernel_rfl) (fun K7 hK7 => ?_)
                have hne7 : (decide (zsl = sv)) = true := by rw [← hb4]; rfl
                go_simp
                refine hK7.out _ _ ?_
                clear hK7
                try simp only [Act.put, zzA, zzB, zzC, zzD, zzE, zzF]
                refine wpAnyY_done (by kernel_rfl) ?_ _
                clear hS q1 q2 q3 q7 ql
                have q1 : WI.cell? ⟨KB, 1, none⟩ = some (.int .i64 ztm) := (HB9.out.keep gd).cell 1
                have q3 : WI.cell? ⟨KB, 3, none⟩ = some (.int .i64 (bn : Nat)) := (HB9.out.keep gd).cell 3
                have ql := (HB9.out.keep gd).lt
                have hRL3 := HRL2.out.keep gd
                have s0 := hRL3.cell hbn
                have s1 := hRL3.frozen bn
                have s2 := hRL3.lt
                have HRS3 := Lib.hid ((HRS2.out.keep gd).far (p := ⟨LB, bn, none⟩) (show SB ≠ LB by omega) (.int .i64 ztm))
                have HRL3 := Lib.hid (hRL3.put hbn ztm)
                have F3 := FI.g gd
                clear hRL3
                go_wp2_with fail
                go_roundw
                case rel => exact ⟨k + 1, by omega, by go_num, HUN.out, HVN.out, by rw [HSG.out]; exact HRL3.out, by rw [HSG.out]; exact HRS3.out, F3.s (p := ⟨LB, bn, none⟩) (.inl (.inl rfl)) _⟩
                case measure => simp [intOf] <;> omega
            · have hb4 : (zsl == sv) = false := by simpa using hse
              clear hse
              rcases hkd with rfl | rfl
              · go_upto_region 24 with fail
                refine wp_region_Y (S := fun W' => G wi W') 7 8 rfl (by kernel_rfl) ((G.rf wi).d) (fun hS => ?_)
                have gd : G wi wi.drew := (G.rf wi).d
                generalize wi.drew = WI at *
                refine wpAnyY_take (i := 0) (v := ?_) rfl (by kernel_rfl) (by kernel_rfl) (by kernel_rfl) (by kernel_rfl) (fun _ _ _ h => h) (Or.inl ⟨by kernel_rfl, ?_⟩) hS ?_
                rotate_left
                · intro w' hSw; go_simp; with_reducible rfl
                try simp only [Act.put, zzA, zzB, zzC, zzD, zzE, zzF]
                refine wpAnyY_take (i := 1) (v := ?_) rfl (by kernel_rfl) (by kernel_rfl) (by kernel_rfl) (by kernel_rfl) (fun _ _ _ h => h) (Or.inl ⟨by kernel_rfl, ?_⟩) hS ?_
                rotate_left
                · intro w' hSw; obtain ⟨hy1, hy2, hy3⟩ := hub _ hSw; go_simp; with_reducible rfl
                try simp only [Act.put, zzA, zzB, zzC, zzD, zzE, zzF]
                refine wpAnyY_take (i := 2) (v := ?_) rfl (by kernel_rfl) (by kernel_rfl) (by kernel_rfl) (by kernel_rfl) (fun _ _ _ h => h) (Or.inl ⟨by kernel_rfl, ?_⟩) hS ?_
                rotate_left
                · intro w' hSw; go_simp; with_reducible rfl
                try simp only [Act.put, zzA, zzB, zzC, zzD, zzE, zzF]
                refine wpAnyY_take (i := 3) (v := ?_) rfl (by kernel_rfl) (by kernel_rfl) (by kernel_rfl) (by kernel_rfl) (fun _ _ _ h => h) (Or.inl ⟨by kernel_rfl, ?_⟩) hS ?_
                rotate_left
                · intro w' hSw; go_simp; with_reducible rfl
                try simp only [Act.put, zzA, zzB, zzC, zzD, zzE, zzF]
                refine wpAnyY_take (i := 4) (v := ?_) rfl (by kernel_rfl) (by kernel_rfl) (by kernel_rfl) (by kernel_rfl) (fun _ _ _ h => h) (Or.inl ⟨by kernel_rfl, ?_⟩) hS ?_
                rotate_left
                · intro w' hSw; obtain ⟨hy1, hy2, hy3⟩ := hub _ hSw; go_simp; with_reducible rfl
                try simp only [Act.put, zzA, zzB, zzC, zzD, zzE, zzF]
                refine wpAnyY_take (i := 5) (v := ?_) rfl (by kernel_rfl) (by kernel_rfl) (by kernel_rfl) (by kernel_rfl) (fun _ _ _ h => h) (Or.inl ⟨by kernel_rfl, ?_⟩) hS ?_
                rotate_left
                · intro w' hSw; go_simp; with_reducible rfl
                try simp only [Act.put, zzA, zzB, zzC, zzD, zzE, zzF]
                refine wpAnyY_take (i := 6) (v := ?_) rfl (by kernel_rfl) (by kernel_rfl) (by kernel_rfl) (by kernel_rfl) (fun _ _ _ h => h) (Or.inl ⟨by kernel_rfl, ?_⟩) hS ?_
                rotate_left
                · intro w' hSw; have hx0 := hu0 _ hSw; obtain ⟨hx1, hx2⟩ := hx0; go_simp; with_reducible rfl
                try simp only [Act.put, zzA, zzB, zzC, zzD, zzE, zzF]
                refine wpAnyY_oneW (i := 7) (by kernel_rfl) rfl (by kernel_rfl) (by kernel_rfl) (fun K7 hK7 => ?_)
                have hne7 : (decide (zsl = sv)) = false := by rw [← hb4]; rfl
                go_simp
                refine hK7.out _ _ ?_
                clear hK7
                try simp only [Act.put, zzA, zzB, zzC, zzD, zzE, zzF]
                refine wpAnyY_done (by kernel_rfl) ?_ _
                clear hS q1 q2 q3 q7 ql
                have gR := (HGW.out _ (FI.g gd))
                go_wp2_with (go_at_call 9; refine (HWK.out _).mono ?_; rintro e v9 ⟨rfl, hv9⟩)
                have gz := gR.t hv9
                first | exact ⟨rfl, gz⟩ | (go_ret; exact ⟨rfl, gz⟩)
              · go_upto_region 24 with fail
                refine wp_region_Y (S := fun W' => G wi W') 7 8 rfl (by kernel_rfl) ((G.rf wi).d) (fun hS => ?_)
                have gd : G wi wi.drew := (G.rf wi).d
                generalize wi.drew = WI at *
                refine wpAnyY_take (i := 0) (v := ?_) rfl (by kernel_rfl) (by kernel_rfl) (by kernel_rfl) (by kernel_rfl) (fun _ _ _ h => h) (Or.inl ⟨by kernel_rfl, ?_⟩) hS ?_
                rotate_left
                · intro w' hSw; go_simp; with_reducible rfl
                try simp only [Act.put, zzA, zzB, zzC, zzD, zzE, zzF]
                refine wpAnyY_take (i := 1) (v := ?_) rfl (by kernel_rfl) (by kernel_rfl) (by kernel_rfl) (by kernel_rfl) (fun _ _ _ h => h) (Or.inl ⟨by kernel_rfl, ?_⟩) hS ?_
                rotate_left
                · intro w' hSw; obtain ⟨hy1, hy2, hy3⟩ := hub _ hSw; go_simp; with_reducible rfl
                try simp only [Act.put, zzA, zzB, zzC, zzD, zzE, zzF]
                refine wpAnyY_take (i := 2) (v := ?_) rfl (by kernel_rfl) (by kernel_rfl) (by kernel_rfl) (by kernel_rfl) (fun _ _ _ h => h) (Or.inl ⟨by kernel_rfl, ?_⟩) hS ?_
                rotate_left
                · intro w' hSw; go_simp; with_reducible rfl
                try simp only [Act.put, zzA, zzB, zzC, zzD, zzE, zzF]
                refine wpAnyY_take (i := 3) (v := ?_) rfl (by kernel_rfl) (by kernel_rfl) (by kernel_rfl) (by kernel_rfl) (fun _ _ _ h => h) (Or.inl ⟨by kernel_rfl, ?_⟩) hS ?_
                rotate_left
                · intro w' hSw; go_simp; with_reducible rfl
                try simp only [Act.put, zzA, zzB, zzC, zzD, zzE, zzF]
                refine wpAnyY_take (i := 4) (v := ?_) rfl (by kernel_rfl) (by kernel_rfl) (by kernel_rfl) (by kernel_rfl) (fun _ _ _ h => h) (Or.inl ⟨by kernel_rfl, ?_⟩) hS ?_
                rotate_left
                · intro w' hSw; obtain ⟨hy1, hy2, hy3⟩ := hub _ hSw; go_simp; with_reducible rfl
                try simp only [Act.put, zzA, zzB, zzC, zzD, zzE, zzF]
                refine wpAnyY_take (i := 5) (v := ?_) rfl (by kernel_rfl) (by kernel_rfl) (by kernel_rfl) (by kernel_rfl) (fun _ _ _ h => h) (Or.inl ⟨by kernel_rfl, ?_⟩) hS ?_
                rotate_left
                · intro w' hSw; go_simp; with_reducible rfl
                try simp only [Act.put, zzA, zzB, zzC, zzD, zzE, zzF]
                refine wpAnyY_take (i := 6) (v := ?_) rfl (by kernel_rfl) (by kernel_rfl) (by kernel_rfl) (by kernel_rfl) (fun _ _ _ h => h) (Or.inl ⟨by kernel_rfl, ?_⟩) hS ?_
                rotate_left
                · intro w' hSw; have hx0 := hu0 _ hSw; obtain ⟨hx1, hx2⟩ := hx0; go_simp; with_reducible rfl
                try simp only [Act.put, zzA, zzB, zzC, zzD, zzE, zzF]
                refine wpAnyY_oneW (i := 7) (by kernel_rfl) rfl (by kernel_rfl) (by kernel_rfl) (fun K7 hK7 => ?_)
                have hne7 : (decide (zsl = sv)) = false := by rw [← hb4]; rfl
                go_simp
                refine hK7.out _ _ ?_
                clear hK7
                try simp only [Act.put, zzA, zzB, zzC, zzD, zzE, zzF]
                refine wpAnyY_done (by kernel_rfl) ?_ _
                clear hS q1 q2 q3 q7 ql
                have gR := (HGW.out _ (FI.g gd))
                go_wp2_with (go_at_call 9; refine (HWK.out _).mono ?_; rintro e v9 ⟨rfl, hv9⟩)
                have gz := gR.t hv9
                first | exact ⟨rfl, gz⟩ | (go_ret; exact ⟨rfl, gz⟩)
    · obtain rfl : i = A.length := by omega
      have hii : ¬ (A.length : Int) < (A.length : Int) := by omega
      have hRL9 : RI wo LB Bn (sg A).2 := by have := HL.out; rwa [List.take_length] at this
      obtain ⟨hbr, hop⟩ := HSP.out HU.out.pair (fun j hj => HV.out j hj)
      have gw := HGW.out wo HFR.out
      have b0o := HFR.out.blk HB0.out (fun e => by rcases e with e | e <;> omega)
      have b1o := HFR.out.blk HB1.out (fun e => by rcases e with e | e <;> omega)
      have H21b := Lib.hid (H21.out hbr)
      have ea : aloE k = 3 := by unfold aloE; rw [if_pos hbr]
      have H15b : Hid (∀ W, G w W → Calls Tryz.prog 15 #[.agg #[.int .i64 (Bn : Nat), .int .i64 ybds, .slice yaa yacts.length yac, .slice yda yduties.length ydc, .int .i64 yen]] W fun e w' => ∃ a cap, e = .returned (.tuple #[.slice a (aloT k cc.duties).length cap, .int .i64 3]) ∧ G W w') := fun W hW => by
        refine (H15.out W hW).mono ?_
        rintro e w' ⟨a, cap, rfl, _, hG⟩
        rw [ea]
        exact ⟨a, cap, rfl, hG⟩
      generalize (aloT k cc.duties).length = AL at *
      have eo : opnT k 0 x1 = opnL k.ps x1 := by unfold opnT; rw [if_pos rfl]
      rw [eo] at H23
      generalize opnL k.ps x1 = LO at *
      clear HL HS HU HV HFR HSP HGW HB0 HB1 H21 H15 ea eo hbr HRA HAK
      rcases hop with rfl | ⟨lo, hi9, rfl, hlo⟩
      · have H23b : Hid (∀ W, G w W → Calls Tryz.prog 23 #[.agg #[.int .i64 (Bn : Nat), .int .i64 ybds, .slice yaa yacts.length yac, .slice yda yduties.length ydc, .int .i64 yen], .int .i64 x1] W fun e w' => ∃ a cap, e = .returned (.tuple #[.slice a 0 cap, .int .i64 0]) ∧ SpAt w' a [] ∧ G W w') := fun W hW => H23.out W hW
        clear H23 hRL9
        have m0 := b0o.cell 0
        have m1 := b0o.cell 1
        have m2 := b0o.cell 2
        have m3 := b0o.cell 3
        have m4 := b0o.cell 4
        have lm := b0o.lt
        have p0 := b1o.cell 0
        have p1 := b1o.cell 1
        have p2 := b1o.cell 2
        have lp := b1o.lt
        go_upto_region 28 with (go_at_call 21; refine (H21b.out _ gw).mono ?_; rintro e v1 ⟨a2, c2, rfl, hv1⟩)
        clear m0 m1 m2 m3 m4 lm p0 p1 p2 lp
        have m0 := (b0o.keep hv1).cell 0
        have m1 := (b0o.keep hv1).cell 1
        have m2 := (b0o.keep hv1).cell 2
        have m3 := (b0o.keep hv1).cell 3
        have m4 := (b0o.keep hv1).cell 4
        have lm := (b0o.keep hv1).lt
        have p0 := (b1o.keep hv1).cell 0
        have p1 := (b1o.keep hv1).cell 1
        have p2 := (b1o.keep hv1).cell 2
        have lp := (b1o.keep hv1).lt
        have g1 := gw.t hv1
        go_upto_region 29 with (go_at_call 23; refine (H23b.out _ g1).mono ?_; rintro e v2 ⟨a3, c3, rfl, hsp, hv2⟩)
        clear m0 m1 m2 m3 m4 lm p0 p1 p2 lp
        have h2 := hv1.t hv2
        have g2 := gw.t h2
        have m0 := (b0o.keep h2).cell 0
        have m1 := (b0o.keep h2).cell 1
        have m2 := (b0o.keep h2).cell 2
        have m3 := (b0o.keep h2).cell 3
        have m4 := (b0o.keep h2).cell 4
        have lm := (b0o.keep h2).lt
        have p0 := (b1o.keep h2).cell 0
        have p1 := (b1o.keep h2).cell 1
        have p2 := (b1o.keep h2).cell 2
        have lp := (b1o.keep h2).lt
        go_upto_region 30 with (go_at_call 15; refine (H15b.out _ g2).mono ?_; rintro e v3 ⟨a4, c4, rfl, hv3⟩)
        clear m0 m1 m2 m3 m4 lm p0 p1 p2 lp
        have h3 := h2.t hv3
        have g3 := gw.t h3
        go_upto_region 32 with fail
        refine wp_region_Y (S := fun W' => G v3 W') 18 19 rfl (by kernel_rfl) ((G.rf v3).d) (fun hS => ?_)
        have gg : G v3 v3.drew := (G.rf v3).d
        generalize v3.drew = WD at *
        refine wpAnyY_take (i := 0) (v := ?_) rfl (by kernel_rfl) (by kernel_rfl) (by kernel_rfl) (by kernel_rfl) (fun _ _ _ h => h) (Or.inl ⟨by kernel_rfl, ?_⟩) hS ?_
        rotate_left
        · intro w' hSw; go_simp; with_reducible rfl
        try simp only [Act.put, zzA, zzB, zzC, zzD, zzE, zzF]
        refine wpAnyY_take (i := 1) (v := ?_) rfl (by kernel_rfl) (by kernel_rfl) (by kernel_rfl) (by kernel_rfl) (fun _ _ _ h => h) (Or.inl ⟨by kernel_rfl, ?_⟩) hS ?_
        rotate_left
        · intro w' hSw; go_simp; with_reducible rfl
        try simp only [Act.put, zzA, zzB, zzC, zzD, zzE, zzF]
        refine wpAnyY_take (i := 2) (v := ?_) rfl (by kernel_rfl) (by kernel_rfl) (by kernel_rfl) (by kernel_rfl) (fun _ _ _ h => h) (Or.inl ⟨by kernel_rfl, ?_⟩) hS ?_
        rotate_left
        · intro w' hSw; go_simp; with_reducible rfl
        try simp only [Act.put, zzA, zzB, zzC, zzD, zzE, zzF]
        refine wpAnyY_take (i := 3) (v := ?_) rfl (by kernel_rfl) (by kernel_rfl) (by kernel_rfl) (by kernel_rfl) (fun _ _ _ h => h) (Or.inl ⟨by kernel_rfl, ?_⟩) hS ?_
        rotate_left
        · intro w' hSw; go_simp; with_reducible rfl
        try simp only [Act.put, zzA, zzB, zzC, zzD, zzE, zzF]
        refine wpAnyY_take (i := 4) (v := undef) rfl (by kernel_rfl) (by kernel_rfl) (by kernel_rfl) (by kernel_rfl) (fun _ _ _ h => h) (Or.inr ⟨by kernel_rfl, rfl⟩) hS ?_
        try simp only [Act.put, zzA, zzB, zzC, zzD, zzE, zzF]
        refine wpAnyY_take (i := 5) (v := undef) rfl (by kernel_rfl) (by kernel_rfl) (by kernel_rfl) (by kernel_rfl) (fun _ _ _ h => h) (Or.inr ⟨by kernel_rfl, rfl⟩) hS ?_
        try simp only [Act.put, zzA, zzB, zzC, zzD, zzE, zzF]
        refine wpAnyY_take (i := 6) (v := undef) rfl (by kernel_rfl) (by kernel_rfl) (by kernel_rfl) (by kernel_rfl) (fun _ _ _ h => h) (Or.inr ⟨by kernel_rfl, rfl⟩) hS ?_
        try simp only [Act.put, zzA, zzB, zzC, zzD, zzE, zzF]
        refine wpAnyY_take (i := 7) (v := undef) rfl (by kernel_rfl) (by kernel_rfl) (by kernel_rfl) (by kernel_rfl) (fun _ _ _ h => h) (Or.inr ⟨by kernel_rfl, rfl⟩) hS ?_
        try simp only [Act.put, zzA, zzB, zzC, zzD, zzE, zzF]
        refine wpAnyY_take (i := 8) (v := undef) rfl (by kernel_rfl) (by kernel_rfl) (by kernel_rfl) (by kernel_rfl) (fun _ _ _ h => h) (Or.inr ⟨by kernel_rfl, rfl⟩) hS ?_
        try simp only [Act.put, zzA, zzB, zzC, zzD, zzE, zzF]
        refine wpAnyY_take (i := 9) (v := undef) rfl (by kernel_rfl) (by kernel_rfl) (by kernel_rfl) (by kernel_rfl) (fun _ _ _ h => h) (Or.inr ⟨by kernel_rfl, rfl⟩) hS ?_
        try simp only [Act.put, zzA, zzB, zzC, zzD, zzE, zzF]
        refine wpAnyY_take (i := 10) (v := undef) rfl (by kernel_rfl) (by kernel_rfl) (by kernel_rfl) (by kernel_rfl) (fun _ _ _ h => h) (Or.inr ⟨by kernel_rfl, rfl⟩) hS ?_
        try simp only [Act.put, zzA, zzB, zzC, zzD, zzE, zzF]
        refine wpAnyY_take (i := 11) (v := undef) rfl (by kernel_rfl) (by kernel_rfl) (by kernel_rfl) (by kernel_rfl) (fun _ _ _ h => h) (Or.inr ⟨by kernel_rfl, rfl⟩) hS ?_
        try simp only [Act.put, zzA, zzB, zzC, zzD, zzE, zzF]
        refine wpAnyY_take (i := 12) (v := undef) rfl (by kernel_rfl) (by kernel_rfl) (by kernel_rfl) (by kernel_rfl) (fun _ _ _ h => h) (Or.inr ⟨by kernel_rfl, rfl⟩) hS ?_
        try simp only [Act.put, zzA, zzB, zzC, zzD, zzE, zzF]
        refine wpAnyY_take (i := 13) (v := undef) rfl (by kernel_rfl) (by kernel_rfl) (by kernel_rfl) (by kernel_rfl) (fun _ _ _ h => h) (Or.inr ⟨by kernel_rfl, rfl⟩) hS ?_
        try simp only [Act.put, zzA, zzB, zzC, zzD, zzE, zzF]
        refine wpAnyY_take (i := 14) (v := ?_) rfl (by kernel_rfl) (by kernel_rfl) (by kernel_rfl) (by kernel_rfl) (fun _ _ _ h => h) (Or.inl ⟨by kernel_rfl, ?_⟩) hS ?_
        rotate_left
        · intro w' hSw; go_simp; with_reducible rfl
        try simp only [Act.put, zzA, zzB, zzC, zzD, zzE, zzF]
        refine wpAnyY_take (i := 15) (v := ?_) rfl (by kernel_rfl) (by kernel_rfl) (by kernel_rfl) (by kernel_rfl) (fun _ _ _ h => h) (Or.inl ⟨by kernel_rfl, ?_⟩) hS ?_
        rotate_left
        · intro w' hSw; go_simp; with_reducible rfl
        try simp only [Act.put, zzA, zzB, zzC, zzD, zzE, zzF]
        refine wpAnyY_oneSW (i := 16) (by kernel_rfl) rfl (by kernel_rfl) (fun K16 hK16 => ?_)
        go_simp
        refine (HWK.out _).mono ?_
        rintro e v4 ⟨rfl, hGc⟩
        refine hK16.out _ _ (gg.t hGc) (fun hS => ?_)
        replace gg := gg.t hGc
        clear hK16 hGc
        try simp only [Act.put, zzA, zzB, zzC, zzD, zzE, zzF]
        refine wpAnyY_take (i := 17) (v := ?_) rfl (by kernel_rfl) (by kernel_rfl) (by kernel_rfl) (by kernel_rfl) (fun _ _ _ h => h) (Or.inl ⟨by kernel_rfl, ?_⟩) hS ?_
        rotate_left
        · intro w' hSw; go_simp; with_reducible rfl
        try simp only [Act.put, zzA, zzB, zzC, zzD, zzE, zzF]
        refine wpAnyY_oneW (i := 18) (by kernel_rfl) rfl (by kernel_rfl) (by kernel_rfl) (fun K18 hK18 => ?_)
        go_simp
        refine hK18.out _ _ ?_
        clear hK18
        try simp only [Act.put, zzA, zzB, zzC, zzD, zzE, zzF]
        refine wpAnyY_done (by kernel_rfl) ?_ _
        have gz := g3.t gg
        go_wp2_with fail
        first | exact ⟨rfl, gz⟩ | (go_ret; exact ⟨rfl, gz⟩)
      · have H23b : Hid (∀ W, G w W → Calls Tryz.prog 23 #[.agg #[.int .i64 (Bn : Nat), .int .i64 ybds, .slice yaa yacts.length yac, .slice yda yduties.length ydc, .int .i64 yen], .int .i64 x1] W fun e w' => ∃ a cap, e = .returned (.tuple #[.slice a 1 cap, .int .i64 0]) ∧ SpAt w' a [(lo, hi9)] ∧ G W w') := fun W hW => H23.out W hW
        clear H23
        obtain ⟨xn, rfl⟩ := Int.eq_ofNat_of_zero_le (show 0 ≤ x1 by omega)
        have hxb : xn < Bn := by omega
        have hxbi : ((xn : Nat) : Int) < (Bn : Int) := by omega
        have m0 := b0o.cell 0
        have m1 := b0o.cell 1
        have m2 := b0o.cell 2
        have m3 := b0o.cell 3
        have m4 := b0o.cell 4
        have lm := b0o.lt
        have p0 := b1o.cell 0
        have p1 := b1o.cell 1
        have p2 := b1o.cell 2
        have lp := b1o.lt
        go_upto_region 28 with (go_at_call 21; refine (H21b.out _ gw).mono ?_; rintro e v1 ⟨a2, c2, rfl, hv1⟩)
        clear m0 m1 m2 m3 m4 lm p0 p1 p2 lp
        have m0 := (b0o.keep hv1).cell 0
        have m1 := (b0o.keep hv1).cell 1
        have m2 := (b0o.keep hv1).cell 2
        have m3 := (b0o.keep hv1).cell 3
        have m4 := (b0o.keep hv1).cell 4
        have lm := (b0o.keep hv1).lt
        have p0 := (b1o.keep hv1).cell 0
        have p1 := (b1o.keep hv1).cell 1
        have p2 := (b1o.keep hv1).cell 2
        have lp := (b1o.keep hv1).lt
        have g1 := gw.t hv1
        go_upto_region 29 with (go_at_call 23; refine (H23b.out _ g1).mono ?_; rintro e v2 ⟨a3, c3, rfl, hsp, hv2⟩)
        clear m0 m1 m2 m3 m4 lm p0 p1 p2 lp
        have h2 := hv1.t hv2
        have g2 := gw.t h2
        have m0 := (b0o.keep h2).cell 0
        have m1 := (b0o.keep h2).cell 1
        have m2 := (b0o.keep h2).cell 2
        have m3 := (b0o.keep h2).cell 3
        have m4 := (b0o.keep h2).cell 4
        have lm := (b0o.keep h2).lt
        have p0 := (b1o.keep h2).cell 0
        have p1 := (b1o.keep h2).cell 1
        have p2 := (b1o.keep h2).cell 2
        have lp := (b1o.keep h2).lt
        go_upto_region 30 with (go_at_call 15; refine (H15b.out _ g2).mono ?_; rintro e v3 ⟨a4, c4, rfl, hv3⟩)
        clear m0 m1 m2 m3 m4 lm p0 p1 p2 lp
        have h3 := h2.t hv3
        have g3 := gw.t h3
        go_upto_region 32 with fail
        refine wp_region_Y (S := fun W' => G v3 W') 18 19 rfl (by kernel_rfl) ((G.rf v3).d) (fun hS => ?_)
        have gg : G v3 v3.drew := (G.rf v3).d
        generalize v3.drew = WD at *
        rcases hsp with h9 | ⟨gs, os, ha3, hgl, hcs⟩
        · exfalso
          have h9' : 1 = 0 := h9
          omega
        have hs1 : v2.cell? ⟨gs, os, none⟩ = some (.int .i64 lo) := (hcs 0 (Nat.zero_lt_one)).1
        clear hcs
        subst ha3
        obtain ⟨lv, hlv⟩ : ∃ lv, lv = (sg A).2 (xn : Nat) := ⟨_, rfl⟩
        have hle : lv ≤ lo := by rw [hlv]; exact hlo
        have hRL0 : ∀ W, G wo W → W.cell? ⟨LB, xn, none⟩ = some (.int .i64 lv) ∧ LB < W.heap.size := fun W hW => ⟨by rw [hlv]; exact (hRL9.keep hW).cell hxb, (hRL9.keep hW).lt⟩
        clear hlo hRL9 hlv
        refine wpAnyY_take (i := 0) (v := ?_) rfl (by kernel_rfl) (by kernel_rfl) (by kernel_rfl) (by kernel_rfl) (fun _ _ _ h => h) (Or.inl ⟨by kernel_rfl, ?_⟩) hS ?_
        rotate_left
        · intro w' hSw; go_simp; with_reducible rfl
        try simp only [Act.put, zzA, zzB, zzC, zzD, zzE, zzF]
        refine wpAnyY_take (i := 1) (v := ?_) rfl (by kernel_rfl) (by kernel_rfl) (by kernel_rfl) (by kernel_rfl) (fun _ _ _ h => h) (Or.inl ⟨by kernel_rfl, ?_⟩) hS ?_
        rotate_left
        · intro w' hSw; go_simp; with_reducible rfl
        try simp only [Act.put, zzA, zzB, zzC, zzD, zzE, zzF]
        refine wpAnyY_take (i := 2) (v := .bool false) rfl (by kernel_rfl) (by kernel_rfl) (by kernel_rfl) (by kernel_rfl) (fun _ _ _ h => h) (Or.inl ⟨by kernel_rfl, ?_⟩) hS ?_
        · intro w9 hSw; go_simp <;> (first | with_reducible rfl | rfl | (simp [*]; done))
        try simp only [Act.put, zzA, zzB, zzC, zzD, zzE, zzF]
        refine wpAnyY_take (i := 3) (v := ?_) rfl (by kernel_rfl) (by kernel_rfl) (by kernel_rfl) (by kernel_rfl) (fun _ _ _ h => h) (Or.inl ⟨by kernel_rfl, ?_⟩) hS ?_
        rotate_left
        · intro w' hSw; go_simp; with_reducible rfl
        try simp only [Act.put, zzA, zzB, zzC, zzD, zzE, zzF]
        refine wpAnyY_take (i := 4) (v := ?_) rfl (by kernel_rfl) (by kernel_rfl) (by kernel_rfl) (by kernel_rfl) (fun _ _ _ h => h) (Or.inl ⟨by kernel_rfl, ?_⟩) hS ?_
        rotate_left
        · intro w' hSw; go_simp; with_reducible rfl
        try simp only [Act.put, zzA, zzB, zzC, zzD, zzE, zzF]
        refine wpAnyY_take (i := 5) (v := ?_) rfl (by kernel_rfl) (by kernel_rfl) (by kernel_rfl) (by kernel_rfl) (fun _ _ _ h => h) (Or.inl ⟨by kernel_rfl, ?_⟩) hS ?_
        rotate_left
        · intro w' hSw; go_simp; with_reducible rfl
        try simp only [Act.put, zzA, zzB, zzC, zzD, zzE, zzF]
        refine wpAnyY_take (i := 6) (v := ?_) rfl (by kernel_rfl) (by kernel_rfl) (by kernel_rfl) (by kernel_rfl) (fun _ _ _ h => h) (Or.inl ⟨by kernel_rfl, ?_⟩) hS ?_
        rotate_left
        · intro w' hSw; go_simp; with_reducible rfl
        try simp only [Act.put, zzA, zzB, zzC, zzD, zzE, zzF]
        refine wpAnyY_take (i := 7) (v := ?_) rfl (by kernel_rfl) (by kernel_rfl) (by kernel_rfl) (by kernel_rfl) (fun _ _ _ h => h) (Or.inl ⟨by kernel_rfl, ?_⟩) hS ?_
        rotate_left
        · intro w' hSw; have hx1 := ((bcellB (hv3.t hSw)).1 gs _ hgl).trans hs1; have hx2 := Nat.lt_of_lt_of_le hgl (hv3.t hSw).size; go_simp; with_reducible rfl
        try simp only [Act.put, zzA, zzB, zzC, zzD, zzE, zzF]
        refine wpAnyY_take (i := 8) (v := ?_) rfl (by kernel_rfl) (by kernel_rfl) (by kernel_rfl) (by kernel_rfl) (fun _ _ _ h => h) (Or.inl ⟨by kernel_rfl, ?_⟩) hS ?_
        rotate_left
        · intro w' hSw; go_simp; with_reducible rfl
        try simp only [Act.put, zzA, zzB, zzC, zzD, zzE, zzF]
        refine wpAnyY_take (i := 9) (v := ?_) rfl (by kernel_rfl) (by kernel_rfl) (by kernel_rfl) (by kernel_rfl) (fun _ _ _ h => h) (Or.inl ⟨by kernel_rfl, ?_⟩) hS ?_
        rotate_left
        · intro w' hSw; have p1 := (b1o.keep (h3.t hSw)).cell 1; have lp := (b1o.keep (h3.t hSw)).lt; go_simp; with_reducible rfl
        try simp only [Act.put, zzA, zzB, zzC, zzD, zzE, zzF]
        refine wpAnyY_take (i := 10) (v := ?_) rfl (by kernel_rfl) (by kernel_rfl) (by kernel_rfl) (by kernel_rfl) (fun _ _ _ h => h) (Or.inl ⟨by kernel_rfl, ?_⟩) hS ?_
        rotate_left
        · intro w' hSw; have p1 := (b1o.keep (h3.t hSw)).cell 1; have lp := (b1o.keep (h3.t hSw)).lt; go_simp; with_reducible rfl
        try simp only [Act.put, zzA, zzB, zzC, zzD, zzE, zzF]
        refine wpAnyY_take (i := 11) (v := ?_) rfl (by kernel_rfl) (by kernel_rfl) (by kernel_rfl) (by kernel_rfl) (fun _ _ _ h => h) (Or.inl ⟨by kernel_rfl, ?_⟩) hS ?_
        rotate_left
        · intro w' hSw; go_simp; with_reducible rfl
        try simp only [Act.put, zzA, zzB, zzC, zzD, zzE, zzF]
        refine wpAnyY_take (i := 12) (v := ?_) rfl (by kernel_rfl) (by kernel_rfl) (by kernel_rfl) (by kernel_rfl) (fun _ _ _ h => h) (Or.inl ⟨by kernel_rfl, ?_⟩) hS ?_
        rotate_left
        · intro w' hSw; obtain ⟨hx1, hx2⟩ := hRL0 _ (h3.t hSw); go_simp; with_reducible rfl
        try simp only [Act.put, zzA, zzB, zzC, zzD, zzE, zzF]
        refine wpAnyY_take (i := 13) (v := .bool true) rfl (by kernel_rfl) (by kernel_rfl) (by kernel_rfl) (by kernel_rfl) (fun _ _ _ h => h) (Or.inl ⟨by kernel_rfl, ?_⟩) hS ?_
        · intro w9 hSw; go_simp <;> (first | with_reducible rfl | exact hle | (rw [decide_eq_true hle]; done) | (simp [hle]; done))
        try simp only [Act.put, zzA, zzB, zzC, zzD, zzE, zzF]
        refine wpAnyY_take (i := 14) (v := ?_) rfl (by kernel_rfl) (by kernel_rfl) (by kernel_rfl) (by kernel_rfl) (fun _ _ _ h => h) (Or.inl ⟨by kernel_rfl, ?_⟩) hS ?_
        rotate_left
        · intro w' hSw; go_simp; with_reducible rfl
        try simp only [Act.put, zzA, zzB, zzC, zzD, zzE, zzF]
        refine wpAnyY_take (i := 15) (v := ?_) rfl (by kernel_rfl) (by kernel_rfl) (by kernel_rfl) (by kernel_rfl) (fun _ _ _ h => h) (Or.inl ⟨by kernel_rfl, ?_⟩) hS ?_
        rotate_left
        · intro w' hSw; go_simp; with_reducible rfl
        try simp only [Act.put, zzA, zzB, zzC, zzD, zzE, zzF]
        refine wpAnyY_oneSW (i := 16) (by kernel_rfl) rfl (by kernel_rfl) (fun K16 hK16 => ?_)
        go_simp
        refine (HWK.out _).mono ?_
        rintro e v4 ⟨rfl, hGc⟩
        refine hK16.out _ _ (gg.t hGc) (fun hS => ?_)
        replace gg := gg.t hGc
        clear hK16 hGc
        try simp only [Act.put, zzA, zzB, zzC, zzD, zzE, zzF]
        refine wpAnyY_take (i := 17) (v := ?_) rfl (by kernel_rfl) (by kernel_rfl) (by kernel_rfl) (by kernel_rfl) (fun _ _ _ h => h) (Or.inl ⟨by kernel_rfl, ?_⟩) hS ?_
        rotate_left
        · intro w' hSw; go_simp; with_reducible rfl
        try simp only [Act.put, zzA, zzB, zzC, zzD, zzE, zzF]
        refine wpAnyY_oneW (i := 18) (by kernel_rfl) rfl (by kernel_rfl) (by kernel_rfl) (fun K18 hK18 => ?_)
        go_simp
        refine hK18.out _ _ ?_
        clear hK18
        try simp only [Act.put, zzA, zzB, zzC, zzD, zzE, zzF]
        refine wpAnyY_done (by kernel_rfl) ?_ _
        have gz := g3.t gg
        go_wp2_with fail
        first | exact ⟨rfl, gz⟩ | (go_ret; exact ⟨rfl, gz⟩)
end Go.Proofs.YtabnpimidhlbiaaGreat

