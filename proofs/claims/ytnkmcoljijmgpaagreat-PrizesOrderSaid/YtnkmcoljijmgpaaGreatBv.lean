import Derived.Laws.StructEq
import Derived.Test.YtnkmcoljijmgpaaGreatBu
set_option linter.unusedSimpArgs false
set_option linter.unusedVariables false
namespace Go.Proofs.YtnkmcoljijmgpaaGreat
open Go.RowKit Go.Shelf Go.Sort Go.Maps
attribute [local go_sem] Oper.semAt_some
theorem ex_Pot (B : Nat) (W : World) (h : (exR B).At W) : Calls Tryz.prog 17 #[.agg (exR B).v, .int .i64 0] W fun e w' => e = .returned (.tuple #[.agg #[.int .i64 5000, .int .i64 500, .int .i64 4500, .int .i64 450], .int .i64 0]) ∧ G W w' := by
  refine (Pot_any (exR B) 0 W h).mono ?_
  rintro e w' ⟨hG, hh⟩
  rcases hh with ⟨a, _⟩ | ⟨_, a⟩
  · exact absurd (ex_q B) a
  · rw [ex_pot] at a
    exact ⟨a, hG⟩
theorem ex_Can (B : Nat) (W : World) (h : (exR B).At W) : Calls Tryz.prog 25 #[.agg (exR B).v, .int .i64 0, .int .i64 12] W fun e w' => e = .returned (.tuple #[.agg #[.int .i64 900, .int .i64 2250], .int .i64 0]) ∧ G W w' := by
  refine (Can_any (exR B) 0 12 W h).mono ?_
  rintro e w' ⟨hG, hh⟩
  rcases hh with ⟨a, _⟩ | ⟨_, a⟩
  · exact absurd (ex_q12 B) a
  · rw [show (exR B).protests = [11, 13] from rfl, ex_lo, ex_hi] at a
    exact ⟨a, hG⟩
theorem ex_Pur (B : Nat) (W : World) (h : (exR B).At W) : Calls Tryz.prog 19 #[.agg (exR B).v] W fun e w' => ∃ g c, e = .returned (.tuple #[.slice (some ⟨g, 0, none⟩) 3 c, .int .i64 0]) ∧ G W w' ∧ g < w'.heap.size ∧ w'.cell? ⟨g, 3, none⟩ = some (.int .i64 2) ∧ w'.cell? ⟨g, 4, none⟩ = some (.int .i64 2833) ∧ w'.cell? ⟨g, 5, none⟩ = some (.int .i64 1413) := by
  refine (Purses_any (exR B) W h).mono ?_
  rintro e w' ⟨hG, hh⟩
  rcases hh with ⟨a, _⟩ | ⟨_, v, rfl, a⟩
  · rw [ex_race] at a; cases a
  · rw [ex_purses] at a
    obtain ⟨g, cap, cur, rfl, hb, hl, ht⟩ := own_some a (by decide)
    exact ⟨g, cap, rfl, hG, hl, take_cell hb ht (by decide) rfl, take_cell hb ht (by decide) rfl, take_cell hb ht (by decide) rfl⟩
set_option maxRecDepth 100000 in
set_option maxHeartbeats 4000000 in
theorem works_any (w : World) : Calls Tryz.prog 15 #[] w fun e w' => e = .returned (.bool true) ∧ G w w' := by
  have HEX := Lib.hid (fun W : World => Example_any W)
  have HPO := Lib.hid ex_Pot
  have HCA := Lib.hid ex_Can
  have HPU := Lib.hid ex_Pur
  go_enter Tryz.func15, Tryz.ntmps15
  go_upto_region 2 with (first | (go_at_call 45; refine (HEX.out _).mono ?_; rintro e w1 ⟨rfl, hA1, hG1⟩) | (go_at_call 17; refine (HPO.out _ _ hA1).mono ?_; rintro e w2 ⟨rfl, hG2⟩))
  have g2 := hG1.t hG2
  have ga := (G.rf w2).a (.cells #[.int .i64 5000, .int .i64 500, .int .i64 4500, .int .i64 450] 33)
  have b2 : Blk (w2.alloc (.cells #[.int .i64 5000, .int .i64 500, .int .i64 4500, .int .i64 450] 33)) w2.heap.size 33 #[.int .i64 5000, .int .i64 500, .int .i64 4500, .int .i64 450] := Blk.new _ _ _
  have g3 := g2.t ga
  clear hA1 hG1 hG2 HPO g2 ga
  change Code.wp _ _ _ _ (w2.alloc (.cells #[.int .i64 5000, .int .i64 500, .int .i64 4500, .int .i64 450] 33))
  obtain ⟨K2, hK2⟩ : ∃ K2, K2 = w2.heap.size := ⟨_, rfl⟩
  rw [← hK2] at b2 ⊢
  clear hK2
  generalize w2.alloc (.cells #[.int .i64 5000, .int .i64 500, .int .i64 4500, .int .i64 450] 33) = w3 at *
  go_upto_region 3 with (first | (go_at_call 45; refine (HEX.out _).mono ?_; rintro e w4 ⟨rfl, hA4, hG4⟩) | (go_at_call 25; refine (HCA.out _ _ hA4).mono ?_; rintro e w5 ⟨rfl, hG5⟩))
  have g5 := hG4.t hG5
  have ga := (G.rf w5).a (.cells #[.int .i64 900, .int .i64 2250] 62)
  have b5 : Blk (w5.alloc (.cells #[.int .i64 900, .int .i64 2250] 62)) w5.heap.size 62 #[.int .i64 900, .int .i64 2250] := Blk.new _ _ _
  have g6 := g5.t ga
  have b26 := b2.keep g6
  have gw6 := g3.t g6
  clear hA4 hG4 hG5 HCA g5 ga g6 b2 g3
  change Code.wp _ _ _ _ (w5.alloc (.cells #[.int .i64 900, .int .i64 2250] 62))
  obtain ⟨K5, hK5⟩ : ∃ K5, K5 = w5.heap.size := ⟨_, rfl⟩
  rw [← hK5] at b5 ⊢
  clear hK5
  generalize w5.alloc (.cells #[.int .i64 900, .int .i64 2250] 62) = w6 at *
  go_upto_region 4 with (first | (go_at_call 45; refine (HEX.out _).mono ?_; rintro e w7 ⟨rfl, hA7, hG7⟩) | (go_at_call 19; refine (HPU.out _ _ hA7).mono ?_; rintro e w8 ⟨g8, c8, rfl, hG8, hl8, q0, q1, q2⟩))
  have g8w := hG7.t hG8
  have b28 := b26.keep g8w
  have b58 := b5.keep g8w
  have HF := Lib.hid (gw6.t g8w)
  clear hA7 hG7 hG8 HPU HEX b26 b5 gw6
  have m0 := b28.cell 0
  have m1 := b28.cell 1
  have m2 := b28.cell 2
  have m3 := b28.cell 3
  have lm := b28.lt
  have n0 := b58.cell 0
  have n1 := b58.cell 1
  have ln := b58.lt
  go_wp2_with fail
  first | (go_ret; exact ⟨rfl, HF.out⟩) | trace_state
end Go.Proofs.YtnkmcoljijmgpaaGreat
