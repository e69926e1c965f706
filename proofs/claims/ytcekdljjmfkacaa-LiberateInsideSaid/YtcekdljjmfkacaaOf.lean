import Derived.Test.YtcekdljjmfkacaaOe
set_option linter.unusedSimpArgs false
set_option linter.unusedVariables false
namespace Go.Proofs.Ytcekdljjmfkacaa
open Go.RowKit Go.Shelf
attribute [local go_sem] Oper.semAt_some wide_fn wide_dep wideR_fn wideR_dep
theorem eq73 (a b c : Int) (w : World) : (binOp .eql 73 (.agg #[.int .i64 a, .int .i64 b, .int .i64 c]) (.agg #[.int .i64 a, .int .i64 b, .int .i64 c])).run Try.prog w = .ok (.bool true) w := by
  go_simp
set_option maxRecDepth 100000 in
set_option maxHeartbeats 4000000 in
theorem works_any (w : World) : Calls Try.prog 13 #[] w fun e w' => e = .returned (.bool true) ∧ G w w' := by
  have HEX := Lib.hid (fun W : World => rExample_any W)
  have HSA : Hid (∀ (gE gS gH gF : Nat) (W : World), (exR gE gS gH gF).Ok W → Calls Try.prog 17 #[.agg (exR gE gS gH gF).v, .int .i64 0, .int .i64 60] W fun e w' => e = .returned (.tuple #[.int .i64 2, .int .i64 0]) ∧ G W w') := fun gE gS gH gF W h => (rSafe_ok h (hi := 0) (mi := 60) (by show 0 < 2; omega) (by omega)).mono fun e w' hp => by
    obtain ⟨h1, h2⟩ := hp
    rw [exR_good, exR_safe] at h1
    exact ⟨h1, h2⟩
  have HBL : Hid (∀ (gE gS gH gF : Nat) (W : World), (exR gE gS gH gF).Ok W → Calls Try.prog 23 #[.agg (exR gE gS gH gF).v, .int .i64 57] W fun e w' => ∃ g c, e = .returned (.tuple #[.slice (some ⟨g, 0, none⟩) 2 c, .int .i64 0]) ∧ G W w' ∧ g < w'.heap.size ∧ ∀ k v, ([.int .i64 0, .int .i64 1, .int .i64 60, .int .i64 1, .int .i64 0, .int .i64 60] : List Value)[k]? = some v → w'.cell? ⟨g, k, none⟩ = some v) := fun gE gS gH gF W h => (rBlocks_ok h (mi := 57) (by omega)).mono fun e w' hp => by
    obtain ⟨h1, h2⟩ := hp
    rw [exR_good] at h2
    rcases h2 with ⟨_, v, B, h3, h4, h5⟩ | ⟨h3, _⟩
    · have e1 : bks ((exR gE gS gH gF).blk 57) (exR gE gS gH gF).n = [(0, 1, 60), (1, 0, 60)] := exR_blk gE gS gH gF
      rw [e1] at h5
      obtain ⟨g, cap, cur, rfl, hb, hl, ht⟩ := own_some h5 (by decide)
      refine ⟨g, cap, h3, h1, hl, fun k v hk => take_cell hb ht (List.getElem?_eq_some_iff.1 hk).1 hk⟩
    · exact absurd rfl h3
  have HMI := Lib.hid (fun (g : Nat) (W : World) (h : Blk W g 30 #[.int .i64 5, .int .i64 9, .int .i64 8, .int .i64 12, .int .i64 20, .int .i64 30]) => Minute_ok (some ⟨g, 0, none⟩) 3 3 exW 1 W (exW_row h) (by decide +kernel) (by decide))
  rw [exW_min] at HMI
  go_enter Try.func13, Try.ntmps13
  go_upto_region 2 with (go_at_call 31; refine (HEX.out _).mono ?_; rintro e w1 ⟨gE, gS, gH, gF, rfl, hE, hS, hH, hF, hG1⟩; unfold exRel)
  have hIs := rIs (exR gE gS gH gF)
  have gA : G w1 (w1.alloc (.cells (exR gE gS gH gF).v 35)) := (G.rf _).a _
  have b1 : Blk (w1.alloc (.cells (exR gE gS gH gF).v 35)) w1.heap.size 35 (exR gE gS gH gF).v := Blk.new w1 35 _
  change Code.wp _ _ _ _ (w1.alloc (.cells (exR gE gS gH gF).v 35))
  generalize w1.alloc (.cells (exR gE gS gH gF).v 35) = w2 at *
  have ok2 : (exR gE gS gH gF).Ok w2 := exR_ok (hE.below gA) (hS.below gA) (hH.keep gA) (hF.keep gA)
  have g1 : G w w2 := hG1.t gA
  clear hE hS hH hF gA hG1 HEX
  obtain ⟨n1, hn1⟩ : ∃ n1, n1 = w1.heap.size := ⟨_, rfl⟩
  rw [← hn1] at b1 ⊢
  clear hn1
  refine wp_region_lit ?_
  refine wpList_load35 n1 1 hIs rfl rfl rfl b1 ?_
  try simp only [Act.put, List.getElem_toArray, List.getElem_cons_zero, List.getElem_cons_succ, List.setIfInBounds_toArray, List.set_cons_zero, List.set_cons_succ]
  go_upto_region 3 with (go_at_call 17; refine (HSA.out gE gS gH gF _ ok2).mono ?_; rintro e w3 ⟨rfl, hG3⟩; replace b1 := b1.keep hG3; replace ok2 := ok2.keep hG3; replace g1 := g1.t hG3)
  refine wp_region_lit ?_
  refine wpList_load35 n1 1 hIs rfl rfl rfl b1 ?_
  try simp only [Act.put, List.getElem_toArray, List.getElem_cons_zero, List.getElem_cons_succ, List.setIfInBounds_toArray, List.set_cons_zero, List.set_cons_succ]
  go_upto_region 4 with (go_at_call 23; refine (HBL.out gE gS gH gF _ ok2).mono ?_; rintro e w4 ⟨gB, cB, rfl, hG4, hlB, hcB⟩; replace g1 := g1.t hG4)
  clear HSA HBL b1 ok2 hIs hG3 hG4
  have nG : G w4 (w4.alloc (.cells #[.int .i64 5, .int .i64 9, .int .i64 8, .int .i64 12, .int .i64 20, .int .i64 30] 30)) := (G.rf _).a _
  go_upto_region 5 with (go_at_call 27; refine (HMI.out w4.heap.size _ (Blk.new _ _ _)).mono ?_; rintro e w5 ⟨rfl, hG5⟩)
  have g5 : G w4 (w5.alloc (.cells #[.int .i64 8, .int .i64 9] 30)) := (nG.t hG5).a _
  have b5 : Blk (w5.alloc (.cells #[.int .i64 8, .int .i64 9] 30)) w5.heap.size 30 #[.int .i64 8, .int .i64 9] := Blk.new _ _ _
  generalize w5.alloc (.cells #[.int .i64 8, .int .i64 9] 30) = w6 at *
  have hd : ∀ k v, ([.int .i64 0, .int .i64 1, .int .i64 60, .int .i64 1, .int .i64 0, .int .i64 60] : List Value)[k]? = some v → w6.cell? ⟨gB, k, none⟩ = some v := fun k v hk => ((bcellB g5).1 gB _ hlB).trans (hcB k v hk)
  have d0 := hd 0 _ rfl
  have d1 := hd 1 _ rfl
  have d2 := hd 2 _ rfl
  have d3 := hd 3 _ rfl
  have d4 := hd 4 _ rfl
  have d5 := hd 5 _ rfl
  have lB := Nat.lt_of_lt_of_le hlB g5.size
  have e0 := b5.cell 0
  have e1 := b5.cell 1
  have q1 := eq73 0 1 60 w6
  have q2 := eq73 1 0 60 w6
  have g6 := g1.t g5
  clear hd hcB HMI nG hG5
  go_wp2
  go_ret
  exact ⟨rfl, g6⟩
end Go.Proofs.Ytcekdljjmfkacaa
