import Derived.Test.YtnkmcoljijmgpaaGreatEi
import Derived.Test.YtnkmcoljijmgpaaGreatCf
set_option linter.unusedSimpArgs false
set_option linter.unusedVariables false
namespace Go.Proofs.YtnkmcoljijmgpaaGreat
open Go.RowKit Go.Shelf Go.Sort Go.Maps
attribute [local go_sem] Oper.semAt_some
set_option maxRecDepth 100000 in
set_option maxHeartbeats 8000000 in
theorem TiesLaw (r : Ra) (p : Int) (w : World) (h : r.Laid w) : Calls Tryz.prog 4 #[.agg r.v, .int .i64 p] w fun e w' => e = .returned (.bool true) ∧ G w w' := by
  have HVA := Lib.hid (fun (W : World) (hW : G w W) => valid8_any r p W (h.keep hW))
  have HWK := Lib.hid (fun (W : World) => works_any W)
  have hrv : r.v = #[.slice r.ra r.racers.length r.rc, .slice r.pa r.pools.length r.pc, .slice r.ta r.protests.length r.tc] := rfl
  obtain ⟨W1, hW1⟩ : ∃ W1, W1 = w.alloc (.cells #[.slice r.ra r.racers.length r.rc, .slice r.pa r.pools.length r.pc, .slice r.ta r.protests.length r.tc] 26) := ⟨_, rfl⟩
  have g0 : G w W1 := by rw [hW1]; exact (G.rf _).a _
  have b0 : Blk W1 w.heap.size 26 #[.slice r.ra r.racers.length r.rc, .slice r.pa r.pools.length r.pc, .slice r.ta r.protests.length r.tc] := by rw [hW1]; exact Blk.new _ _ _
  rw [hrv] at HVA ⊢
  go_enter Tryz.func4, Tryz.ntmps4
  go_upto_region 1 with fail
  change Code.wp _ _ _ _ (w.alloc (.cells #[.slice r.ra r.racers.length r.rc, .slice r.pa r.pools.length r.pc, .slice r.ta r.protests.length r.tc] 26))
  rw [← hW1]
  clear hW1
  have m0 := b0.cell 0
  have m1 := b0.cell 1
  have m2 := b0.cell 2
  have l0 := b0.lt
  cases hVB : valR r p
  · rw [hVB] at HVA
    clear h
    go_wp2_with (first | (go_at_call 20; refine (HVA.out _ g0).mono ?_; rintro e w2 ⟨rfl, hG2⟩) | (go_at_call 15; refine (HWK.out _).mono ?_; rintro e w3 ⟨rfl, hG3⟩))
    have gz := (g0.t hG2).t hG3
    first | exact ⟨rfl, gz⟩ | (go_ret; exact ⟨rfl, gz⟩)
  · rw [hVB] at HVA
    obtain ⟨hat, hrb, hp0, hpl⟩ := valR_at h hVB
    have hq0 := valR_q hVB
    have HC1 := Lib.hid (fun (W : World) (hW : G w W) => orQ0 r p W (hat.keep hW) hq0)
    have HC2 := Lib.hid (fun (W : World) (hW : G w W) => prQ0 r p W (hat.keep hW) hq0)
    have HC3 := Lib.hid (fun (W : World) (hW : G w W) => plQ0 r p W (hat.keep hW) hq0)
    rw [hrv] at HC1 HC2 HC3
    obtain ⟨wn, HTF⟩ : ∃ wn, Hid (TieF (prizesL (fuOf r p none 0)) (orderL (fuOf r p none 0) []) (placesL (fuOf r p none 0)) wn) := ⟨_, tie_of hq0⟩
    generalize prizesL (fuOf r p none 0) = AL at *
    generalize orderL (fuOf r p none 0) [] = GS at *
    generalize placesL (fuOf r p none 0) = PL at *
    clear h hVB hat hrb hq0 hrv hp0 hpl
    have hl1 := HTF.out.l1
    have hl2 := HTF.out.l2
    have hl3 := HTF.out.l3
    go_upto_region 4 with (first | (go_at_call 20; refine (HVA.out _ g0).mono ?_; rintro e w2 ⟨rfl, hG2⟩; have b02 := b0.keep hG2; have g2 := g0.t hG2; clear m0 m1 m2 l0; have m0 := b02.cell 0; have m1 := b02.cell 1; have m2 := b02.cell 2; have l0 := b02.lt) | (go_at_call 21; refine (HC1.out _ g2).mono ?_; rintro e w3 ⟨hG3, ga, gcc, rfl, hgr⟩))
    have HGRP := Lib.hid hgr
    have g3 := g2.t hG3
    clear m0 m1 m2 l0 hgr HVA HC1
    have b03 := b02.keep hG3
    have m0 := b03.cell 0
    have m1 := b03.cell 1
    have m2 := b03.cell 2
    have l0 := b03.lt
    go_upto_region 5 with (go_at_call 18; refine (HC2.out _ g3).mono ?_; rintro e w4 ⟨hG4, aa, ac, rfl, hra⟩)
    have HRA := Lib.hid hra
    have g4 := g3.t hG4
    clear m0 m1 m2 l0 hra HC2
    have b04 := b03.keep hG4
    have m0 := b04.cell 0
    have m1 := b04.cell 1
    have m2 := b04.cell 2
    have l0 := b04.lt
    go_upto_region 6 with (go_at_call 22; refine (HC3.out _ g4).mono ?_; rintro e w5 ⟨hG5, pa, pc, rfl, hpi⟩)
    have HPI := Lib.hid hpi
    have g5 := g4.t hG5
    have HGRP5 := Lib.hid (HGRP.out.keep (hG4.t hG5))
    have HRA5 := Lib.hid (HRA.out.below hG5)
    clear m0 m1 m2 l0 hpi HC3 HGRP HRA b03 b04 b02 b0 g0 g2 g3 g4 hG2 hG3 hG4 hG5
    have hi1 : ¬ (AL.length : Int) < GS.length := by omega
    have hi2 : ¬ ((AL.length : Int) + 8) < PL.length := by omega
    have hw8 : IntKind.i64.wrap ((AL.length : Int) + 8) = (AL.length : Int) + 8 := IntWalk.i64_in _ (by omega)
    go_wp2_with fail
    clear hi1 hi2 hw8
    go_loopw [11, 12] (fun vf i wr => ∃ (k : Nat) (fb : Bool), 1 ≤ k ∧ k ≤ PL.length + 1 ∧ vf = .bool fb ∧ i = .int .i64 k ∧ Hid (fb = true → ∀ q, q + 1 < k → PL.getD (q + 1) 0 ≤ PL.getD q 0) ∧ G w5 wr) (fun _ i _ => PL.length - (intOf i).toNat)
    case atStart => exact ⟨1, true, by omega, by omega, rfl, rfl, fun _ q hq => by omega, G.rf _⟩
    case round =>
      obtain ⟨k, fb, hk1, hk, rfl, rfl, HFA, hG⟩ := hrel
      obtain ⟨wo, rfl⟩ : ∃ wo, wo = wr := ⟨_, rfl⟩
      by_cases hlt : k < PL.length
      · have hki : (k : Int) < PL.length := by omega
        obtain ⟨m, hm⟩ : ∃ m, m = k - 1 := ⟨_, rfl⟩
        have hmk : (k : Int) - 1 = (m : Int) := by omega
        have hws : IntKind.i64.wrap ((k : Int) - 1) = (m : Int) := by rw [hmk]; exact IntWalk.i64_in _ (by omega)
        have hml : m < PL.length := by omega
        have hmi : (m : Int) < PL.length := by omega
        have hkm : k = m + 1 := by omega
        have HKM := Lib.hid hkm
        clear hm hmk hkm
        rcases HPI.out.below hG with hx | ⟨gp, op, hpe, hgp, hcell⟩
        · rw [hx] at hlt; simp at hlt
        subst hpe
        obtain ⟨x, hx⟩ : ∃ x, x = PL.getD k 0 := ⟨_, rfl⟩
        obtain ⟨y, hy⟩ : ∃ y, y = PL.getD m 0 := ⟨_, rfl⟩
        have HX := Lib.hid hx
        have HY := Lib.hid hy
        have hSk : ∀ W', G wo W' → W'.cell? ⟨gp, op + k, none⟩ = some (.int .i64 x) ∧ W'.cell? ⟨gp, op + m, none⟩ = some (.int .i64 y) ∧ gp < W'.heap.size := fun W' hW => ⟨by rw [hx]; exact ((bcellB hW).1 gp _ hgp).trans (hcell k hlt), by rw [hy]; exact ((bcellB hW).1 gp _ hgp).trans (hcell m hml), Nat.lt_of_lt_of_le hgp hW.size⟩
        clear hx hy hcell
        cases fb
        · go_upto_region 12 with fail
          refine wp_region_Y (S := fun W' => W'.cell? ⟨gp, op + k, none⟩ = some (.int .i64 x) ∧ W'.cell? ⟨gp, op + m, none⟩ = some (.int .i64 y) ∧ gp < W'.heap.size) 13 14 rfl (by kernel_rfl) (hSk _ (G.rf _).d) (fun hS => ?_)
          have ga := (G.rf wo).d
          refine wpAnyY_take (i := 0) (v := ?_) rfl (by kernel_rfl) (by kernel_rfl) (by kernel_rfl) (by kernel_rfl) (fun _ _ _ h => h) (Or.inl ⟨by kernel_rfl, ?_⟩) hS ?_
          rotate_left
          · intro w' hSw; go_simp; with_reducible rfl
          try simp only [Act.put, List.getElem_toArray, List.getElem_cons_zero, List.getElem_cons_succ, List.setIfInBounds_toArray, List.set_cons_zero, List.set_cons_succ]
          refine wpAnyY_take (i := 1) (v := ?_) rfl (by kernel_rfl) (by kernel_rfl) (by kernel_rfl) (by kernel_rfl) (fun _ _ _ h => h) (Or.inl ⟨by kernel_rfl, ?_⟩) hS ?_
          rotate_left
          · intro w' hSw; go_simp; with_reducible rfl
          try simp only [Act.put, List.getElem_toArray, List.getElem_cons_zero, List.getElem_cons_succ, List.setIfInBounds_toArray, List.set_cons_zero, List.set_cons_succ]
          refine wpAnyY_take (i := 2) (v := undef) rfl (by kernel_rfl) (by kernel_rfl) (by kernel_rfl) (by kernel_rfl) (fun _ _ _ h => h) (Or.inr ⟨by kernel_rfl, rfl⟩) hS ?_
          try simp only [Act.put, List.getElem_toArray, List.getElem_cons_zero, List.getElem_cons_succ, List.setIfInBounds_toArray, List.set_cons_zero, List.set_cons_succ]
          refine wpAnyY_take (i := 3) (v := undef) rfl (by kernel_rfl) (by kernel_rfl) (by kernel_rfl) (by kernel_rfl) (fun _ _ _ h => h) (Or.inr ⟨by kernel_rfl, rfl⟩) hS ?_
          try simp only [Act.put, List.getElem_toArray, List.getElem_cons_zero, List.getElem_cons_succ, List.setIfInBounds_toArray, List.set_cons_zero, List.set_cons_succ]
          refine wpAnyY_take (i := 4) (v := undef) rfl (by kernel_rfl) (by kernel_rfl) (by kernel_rfl) (by kernel_rfl) (fun _ _ _ h => h) (Or.inr ⟨by kernel_rfl, rfl⟩) hS ?_
          try simp only [Act.put, List.getElem_toArray, List.getElem_cons_zero, List.getElem_cons_succ, List.setIfInBounds_toArray, List.set_cons_zero, List.set_cons_succ]
          refine wpAnyY_take (i := 5) (v := undef) rfl (by kernel_rfl) (by kernel_rfl) (by kernel_rfl) (by kernel_rfl) (fun _ _ _ h => h) (Or.inr ⟨by kernel_rfl, rfl⟩) hS ?_
          try simp only [Act.put, List.getElem_toArray, List.getElem_cons_zero, List.getElem_cons_succ, List.setIfInBounds_toArray, List.set_cons_zero, List.set_cons_succ]
          refine wpAnyY_take (i := 6) (v := undef) rfl (by kernel_rfl) (by kernel_rfl) (by kernel_rfl) (by kernel_rfl) (fun _ _ _ h => h) (Or.inr ⟨by kernel_rfl, rfl⟩) hS ?_
          try simp only [Act.put, List.getElem_toArray, List.getElem_cons_zero, List.getElem_cons_succ, List.setIfInBounds_toArray, List.set_cons_zero, List.set_cons_succ]
          refine wpAnyY_take (i := 7) (v := undef) rfl (by kernel_rfl) (by kernel_rfl) (by kernel_rfl) (by kernel_rfl) (fun _ _ _ h => h) (Or.inr ⟨by kernel_rfl, rfl⟩) hS ?_
          try simp only [Act.put, List.getElem_toArray, List.getElem_cons_zero, List.getElem_cons_succ, List.setIfInBounds_toArray, List.set_cons_zero, List.set_cons_succ]
          refine wpAnyY_take (i := 8) (v := undef) rfl (by kernel_rfl) (by kernel_rfl) (by kernel_rfl) (by kernel_rfl) (fun _ _ _ h => h) (Or.inr ⟨by kernel_rfl, rfl⟩) hS ?_
          try simp only [Act.put, List.getElem_toArray, List.getElem_cons_zero, List.getElem_cons_succ, List.setIfInBounds_toArray, List.set_cons_zero, List.set_cons_succ]
          refine wpAnyY_take (i := 9) (v := undef) rfl (by kernel_rfl) (by kernel_rfl) (by kernel_rfl) (by kernel_rfl) (fun _ _ _ h => h) (Or.inr ⟨by kernel_rfl, rfl⟩) hS ?_
          try simp only [Act.put, List.getElem_toArray, List.getElem_cons_zero, List.getElem_cons_succ, List.setIfInBounds_toArray, List.set_cons_zero, List.set_cons_succ]
          refine wpAnyY_take (i := 10) (v := undef) rfl (by kernel_rfl) (by kernel_rfl) (by kernel_rfl) (by kernel_rfl) (fun _ _ _ h => h) (Or.inr ⟨by kernel_rfl, rfl⟩) hS ?_
          try simp only [Act.put, List.getElem_toArray, List.getElem_cons_zero, List.getElem_cons_succ, List.setIfInBounds_toArray, List.set_cons_zero, List.set_cons_succ]
          refine wpAnyY_take (i := 11) (v := undef) rfl (by kernel_rfl) (by kernel_rfl) (by kernel_rfl) (by kernel_rfl) (fun _ _ _ h => h) (Or.inr ⟨by kernel_rfl, rfl⟩) hS ?_
          try simp only [Act.put, List.getElem_toArray, List.getElem_cons_zero, List.getElem_cons_succ, List.setIfInBounds_toArray, List.set_cons_zero, List.set_cons_succ]
          refine wpAnyY_take (i := 12) (v := ?_) rfl (by kernel_rfl) (by kernel_rfl) (by kernel_rfl) (by kernel_rfl) (fun _ _ _ h => h) (Or.inl ⟨by kernel_rfl, ?_⟩) hS ?_
          rotate_left
          · intro w' hSw; go_simp; with_reducible rfl
          try simp only [Act.put, List.getElem_toArray, List.getElem_cons_zero, List.getElem_cons_succ, List.setIfInBounds_toArray, List.set_cons_zero, List.set_cons_succ]
          refine wpAnyY_oneW (i := 13) (by kernel_rfl) rfl (by kernel_rfl) (by kernel_rfl) (fun K13 hK13 => ?_)
          go_simp
          refine hK13.out _ _ ?_
          clear hK13
          try simp only [Act.put, List.getElem_toArray, List.getElem_cons_zero, List.getElem_cons_succ, List.setIfInBounds_toArray, List.set_cons_zero, List.set_cons_succ]
          refine wpAnyY_done (by kernel_rfl) ?_ _
          go_wp2_with fail
          go_roundw
          case rel => exact ⟨k + 1, false, by omega, by omega, rfl, by go_num, fun e => (by cases e), hG.t ga⟩
          case measure => simp [intOf] <;> omega
        · by_cases hxy : x ≤ y
          · have hd : decide (x ≤ y) = true := decide_eq_true hxy
            have HXY := Lib.hid hxy
            clear hxy
            go_upto_region 12 with fail
            refine wp_region_Y (S := fun W' => W'.cell? ⟨gp, op + k, none⟩ = some (.int .i64 x) ∧ W'.cell? ⟨gp, op + m, none⟩ = some (.int .i64 y) ∧ gp < W'.heap.size) 13 14 rfl (by kernel_rfl) (hSk _ (G.rf _).d) (fun hS => ?_)
            have ga := (G.rf wo).d
            refine wpAnyY_take (i := 0) (v := ?_) rfl (by kernel_rfl) (by kernel_rfl) (by kernel_rfl) (by kernel_rfl) (fun _ _ _ h => h) (Or.inl ⟨by kernel_rfl, ?_⟩) hS ?_
            rotate_left
            · intro w' hSw; go_simp; with_reducible rfl
            try simp only [Act.put, List.getElem_toArray, List.getElem_cons_zero, List.getElem_cons_succ, List.setIfInBounds_toArray, List.set_cons_zero, List.set_cons_succ]
            refine wpAnyY_take (i := 1) (v := ?_) rfl (by kernel_rfl) (by kernel_rfl) (by kernel_rfl) (by kernel_rfl) (fun _ _ _ h => h) (Or.inl ⟨by kernel_rfl, ?_⟩) hS ?_
            rotate_left
            · intro w' hSw; go_simp; with_reducible rfl
            try simp only [Act.put, List.getElem_toArray, List.getElem_cons_zero, List.getElem_cons_succ, List.setIfInBounds_toArray, List.set_cons_zero, List.set_cons_succ]
            refine wpAnyY_take (i := 2) (v := ?_) rfl (by kernel_rfl) (by kernel_rfl) (by kernel_rfl) (by kernel_rfl) (fun _ _ _ h => h) (Or.inl ⟨by kernel_rfl, ?_⟩) hS ?_
            rotate_left
            · intro w' hSw; go_simp; with_reducible rfl
            try simp only [Act.put, List.getElem_toArray, List.getElem_cons_zero, List.getElem_cons_succ, List.setIfInBounds_toArray, List.set_cons_zero, List.set_cons_succ]
            refine wpAnyY_take (i := 3) (v := ?_) rfl (by kernel_rfl) (by kernel_rfl) (by kernel_rfl) (by kernel_rfl) (fun _ _ _ h => h) (Or.inl ⟨by kernel_rfl, ?_⟩) hS ?_
            rotate_left
            · intro w' hSw; go_simp; with_reducible rfl
            try simp only [Act.put, List.getElem_toArray, List.getElem_cons_zero, List.getElem_cons_succ, List.setIfInBounds_toArray, List.set_cons_zero, List.set_cons_succ]
            refine wpAnyY_take (i := 4) (v := ?_) rfl (by kernel_rfl) (by kernel_rfl) (by kernel_rfl) (by kernel_rfl) (fun _ _ _ h => h) (Or.inl ⟨by kernel_rfl, ?_⟩) hS ?_
            rotate_left
            · intro w' hSw; go_simp; with_reducible rfl
            try simp only [Act.put, List.getElem_toArray, List.getElem_cons_zero, List.getElem_cons_succ, List.setIfInBounds_toArray, List.set_cons_zero, List.set_cons_succ]
            refine wpAnyY_take (i := 5) (v := ?_) rfl (by kernel_rfl) (by kernel_rfl) (by kernel_rfl) (by kernel_rfl) (fun _ _ _ h => h) (Or.inl ⟨by kernel_rfl, ?_⟩) hS ?_
            rotate_left
            · intro w' hSw; obtain ⟨s0, s1, s2⟩ := hSw; go_simp; with_reducible rfl
            try simp only [Act.put, List.getElem_toArray, List.getElem_cons_zero, List.getElem_cons_succ, List.setIfInBounds_toArray, List.set_cons_zero, List.set_cons_succ]
            refine wpAnyY_take (i := 6) (v := ?_) rfl (by kernel_rfl) (by kernel_rfl) (by kernel_rfl) (by kernel_rfl) (fun _ _ _ h => h) (Or.inl ⟨by kernel_rfl, ?_⟩) hS ?_
            rotate_left
            · intro w' hSw; go_simp; with_reducible rfl
            try simp only [Act.put, List.getElem_toArray, List.getElem_cons_zero, List.getElem_cons_succ, List.setIfInBounds_toArray, List.set_cons_zero, List.set_cons_succ]
            refine wpAnyY_take (i := 7) (v := ?_) rfl (by kernel_rfl) (by kernel_rfl) (by kernel_rfl) (by kernel_rfl) (fun _ _ _ h => h) (Or.inl ⟨by kernel_rfl, ?_⟩) hS ?_
            rotate_left
            · intro w' hSw; go_simp; with_reducible rfl
            try simp only [Act.put, List.getElem_toArray, List.getElem_cons_zero, List.getElem_cons_succ, List.setIfInBounds_toArray, List.set_cons_zero, List.set_cons_succ]
            refine wpAnyY_take (i := 8) (v := ?_) rfl (by kernel_rfl) (by kernel_rfl) (by kernel_rfl) (by kernel_rfl) (fun _ _ _ h => h) (Or.inl ⟨by kernel_rfl, ?_⟩) hS ?_
            rotate_left
            · intro w' hSw; go_simp; with_reducible rfl
            try simp only [Act.put, List.getElem_toArray, List.getElem_cons_zero, List.getElem_cons_succ, List.setIfInBounds_toArray, List.set_cons_zero, List.set_cons_succ]
            refine wpAnyY_take (i := 9) (v := ?_) rfl (by kernel_rfl) (by kernel_rfl) (by kernel_rfl) (by kernel_rfl) (fun _ _ _ h => h) (Or.inl ⟨by kernel_rfl, ?_⟩) hS ?_
            rotate_left
            · intro w' hSw; go_simp; with_reducible rfl
            try simp only [Act.put, List.getElem_toArray, List.getElem_cons_zero, List.getElem_cons_succ, List.setIfInBounds_toArray, List.set_cons_zero, List.set_cons_succ]
            refine wpAnyY_take (i := 10) (v := ?_) rfl (by kernel_rfl) (by kernel_rfl) (by kernel_rfl) (by kernel_rfl) (fun _ _ _ h => h) (Or.inl ⟨by kernel_rfl, ?_⟩) hS ?_
            rotate_left
            · intro w' hSw; obtain ⟨s0, s1, s2⟩ := hSw; go_simp; with_reducible rfl
            try simp only [Act.put, List.getElem_toArray, List.getElem_cons_zero, List.getElem_cons_succ, List.setIfInBounds_toArray, List.set_cons_zero, List.set_cons_succ]
            refine wpAnyY_take (i := 11) (v := ?_) rfl (by kernel_rfl) (by kernel_rfl) (by kernel_rfl) (by kernel_rfl) (fun _ _ _ h => h) (Or.inl ⟨by kernel_rfl, ?_⟩) hS ?_
            rotate_left
            · intro w' hSw; go_simp; with_reducible rfl
            try simp only [Act.put, List.getElem_toArray, List.getElem_cons_zero, List.getElem_cons_succ, List.setIfInBounds_toArray, List.set_cons_zero, List.set_cons_succ]
            refine wpAnyY_take (i := 12) (v := ?_) rfl (by kernel_rfl) (by kernel_rfl) (by kernel_rfl) (by kernel_rfl) (fun _ _ _ h => h) (Or.inl ⟨by kernel_rfl, ?_⟩) hS ?_
            rotate_left
            · intro w' hSw; go_simp; with_reducible rfl
            try simp only [Act.put, List.getElem_toArray, List.getElem_cons_zero, List.getElem_cons_succ, List.setIfInBounds_toArray, List.set_cons_zero, List.set_cons_succ]
            refine wpAnyY_oneW (i := 13) (by kernel_rfl) rfl (by kernel_rfl) (by kernel_rfl) (fun K13 hK13 => ?_)
            go_simp
            refine hK13.out _ _ ?_
            clear hK13
            try simp only [Act.put, List.getElem_toArray, List.getElem_cons_zero, List.getElem_cons_succ, List.setIfInBounds_toArray, List.set_cons_zero, List.set_cons_succ]
            refine wpAnyY_done (by kernel_rfl) ?_ _
            go_wp2_with fail
            go_roundw
            case rel => exact ⟨k + 1, true, by omega, by omega, rfl, by go_num, fun _ q hq => by
              by_cases e : q = m
              · subst e
                rw [← HKM.out, ← HX.out, ← HY.out]
                exact HXY.out
              · exact HFA.out rfl q (by have := HKM.out; omega), hG.t ga⟩
            case measure => simp [intOf] <;> omega
          · have hd : decide (x ≤ y) = false := decide_eq_false hxy
            clear hxy
            go_upto_region 12 with fail
            refine wp_region_Y (S := fun W' => W'.cell? ⟨gp, op + k, none⟩ = some (.int .i64 x) ∧ W'.cell? ⟨gp, op + m, none⟩ = some (.int .i64 y) ∧ gp < W'.heap.size) 13 14 rfl (by kernel_rfl) (hSk _ (G.rf _).d) (fun hS => ?_)
            have ga := (G.rf wo).d
            refine wpAnyY_take (i := 0) (v := ?_) rfl (by kernel_rfl) (by kernel_rfl) (by kernel_rfl) (by kernel_rfl) (fun _ _ _ h => h) (Or.inl ⟨by kernel_rfl, ?_⟩) hS ?_
            rotate_left
            · intro w' hSw; go_simp; with_reducible rfl
            try simp only [Act.put, List.getElem_toArray, List.getElem_cons_zero, List.getElem_cons_succ, List.setIfInBounds_toArray, List.set_cons_zero, List.set_cons_succ]
            refine wpAnyY_take (i := 1) (v := ?_) rfl (by kernel_rfl) (by kernel_rfl) (by kernel_rfl) (by kernel_rfl) (fun _ _ _ h => h) (Or.inl ⟨by kernel_rfl, ?_⟩) hS ?_
            rotate_left
            · intro w' hSw; go_simp; with_reducible rfl
            try simp only [Act.put, List.getElem_toArray, List.getElem_cons_zero, List.getElem_cons_succ, List.setIfInBounds_toArray, List.set_cons_zero, List.set_cons_succ]
            refine wpAnyY_take (i := 2) (v := ?_) rfl (by kernel_rfl) (by kernel_rfl) (by kernel_rfl) (by kernel_rfl) (fun _ _ _ h => h) (Or.inl ⟨by kernel_rfl, ?_⟩) hS ?_
            rotate_left
            · intro w' hSw; go_simp; with_reducible rfl
            try simp only [Act.put, List.getElem_toArray, List.getElem_cons_zero, List.getElem_cons_succ, List.setIfInBounds_toArray, List.set_cons_zero, List.set_cons_succ]
            refine wpAnyY_take (i := 3) (v := ?_) rfl (by kernel_rfl) (by kernel_rfl) (by kernel_rfl) (by kernel_rfl) (fun _ _ _ h => h) (Or.inl ⟨by kernel_rfl, ?_⟩) hS ?_
            rotate_left
            · intro w' hSw; go_simp; with_reducible rfl
            try simp only [Act.put, List.getElem_toArray, List.getElem_cons_zero, List.getElem_cons_succ, List.setIfInBounds_toArray, List.set_cons_zero, List.set_cons_succ]
            refine wpAnyY_take (i := 4) (v := ?_) rfl (by kernel_rfl) (by kernel_rfl) (by kernel_rfl) (by kernel_rfl) (fun _ _ _ h => h) (Or.inl ⟨by kernel_rfl, ?_⟩) hS ?_
            rotate_left
            · intro w' hSw; go_simp; with_reducible rfl
            try simp only [Act.put, List.getElem_toArray, List.getElem_cons_zero, List.getElem_cons_succ, List.setIfInBounds_toArray, List.set_cons_zero, List.set_cons_succ]
            refine wpAnyY_take (i := 5) (v := ?_) rfl (by kernel_rfl) (by kernel_rfl) (by kernel_rfl) (by kernel_rfl) (fun _ _ _ h => h) (Or.inl ⟨by kernel_rfl, ?_⟩) hS ?_
            rotate_left
            · intro w' hSw; obtain ⟨s0, s1, s2⟩ := hSw; go_simp; with_reducible rfl
            try simp only [Act.put, List.getElem_toArray, List.getElem_cons_zero, List.getElem_cons_succ, List.setIfInBounds_toArray, List.set_cons_zero, List.set_cons_succ]
            refine wpAnyY_take (i := 6) (v := ?_) rfl (by kernel_rfl) (by kernel_rfl) (by kernel_rfl) (by kernel_rfl) (fun _ _ _ h => h) (Or.inl ⟨by kernel_rfl, ?_⟩) hS ?_
            rotate_left
            · intro w' hSw; go_simp; with_reducible rfl
            try simp only [Act.put, List.getElem_toArray, List.getElem_cons_zero, List.getElem_cons_succ, List.setIfInBounds_toArray, List.set_cons_zero, List.set_cons_succ]
            refine wpAnyY_take (i := 7) (v := ?_) rfl (by kernel_rfl) (by kernel_rfl) (by kernel_rfl) (by kernel_rfl) (fun _ _ _ h => h) (Or.inl ⟨by kernel_rfl, ?_⟩) hS ?_
            rotate_left
            · intro w' hSw; go_simp; with_reducible rfl
            try simp only [Act.put, List.getElem_toArray, List.getElem_cons_zero, List.getElem_cons_succ, List.setIfInBounds_toArray, List.set_cons_zero, List.set_cons_succ]
            refine wpAnyY_take (i := 8) (v := ?_) rfl (by kernel_rfl) (by kernel_rfl) (by kernel_rfl) (by kernel_rfl) (fun _ _ _ h => h) (Or.inl ⟨by kernel_rfl, ?_⟩) hS ?_
            rotate_left
            · intro w' hSw; go_simp; with_reducible rfl
            try simp only [Act.put, List.getElem_toArray, List.getElem_cons_zero, List.getElem_cons_succ, List.setIfInBounds_toArray, List.set_cons_zero, List.set_cons_succ]
            refine wpAnyY_take (i := 9) (v := ?_) rfl (by kernel_rfl) (by kernel_rfl) (by kernel_rfl) (by kernel_rfl) (fun _ _ _ h => h) (Or.inl ⟨by kernel_rfl, ?_⟩) hS ?_
            rotate_left
            · intro w' hSw; go_simp; with_reducible rfl
            try simp only [Act.put, List.getElem_toArray, List.getElem_cons_zero, List.getElem_cons_succ, List.setIfInBounds_toArray, List.set_cons_zero, List.set_cons_succ]
            refine wpAnyY_take (i := 10) (v := ?_) rfl (by kernel_rfl) (by kernel_rfl) (by kernel_rfl) (by kernel_rfl) (fun _ _ _ h => h) (Or.inl ⟨by kernel_rfl, ?_⟩) hS ?_
            rotate_left
            · intro w' hSw; obtain ⟨s0, s1, s2⟩ := hSw; go_simp; with_reducible rfl
            try simp only [Act.put, List.getElem_toArray, List.getElem_cons_zero, List.getElem_cons_succ, List.setIfInBounds_toArray, List.set_cons_zero, List.set_cons_succ]
            refine wpAnyY_take (i := 11) (v := ?_) rfl (by kernel_rfl) (by kernel_rfl) (by kernel_rfl) (by kernel_rfl) (fun _ _ _ h => h) (Or.inl ⟨by kernel_rfl, ?_⟩) hS ?_
            rotate_left
            · intro w' hSw; go_simp; with_reducible rfl
            try simp only [Act.put, List.getElem_toArray, List.getElem_cons_zero, List.getElem_cons_succ, List.setIfInBounds_toArray, List.set_cons_zero, List.set_cons_succ]
            refine wpAnyY_take (i := 12) (v := ?_) rfl (by kernel_rfl) (by kernel_rfl) (by kernel_rfl) (by kernel_rfl) (fun _ _ _ h => h) (Or.inl ⟨by kernel_rfl, ?_⟩) hS ?_
            rotate_left
            · intro w' hSw; go_simp; with_reducible rfl
            try simp only [Act.put, List.getElem_toArray, List.getElem_cons_zero, List.getElem_cons_succ, List.setIfInBounds_toArray, List.set_cons_zero, List.set_cons_succ]
            refine wpAnyY_oneW (i := 13) (by kernel_rfl) rfl (by kernel_rfl) (by kernel_rfl) (fun K13 hK13 => ?_)
            go_simp
            refine hK13.out _ _ ?_
            clear hK13
            try simp only [Act.put, List.getElem_toArray, List.getElem_cons_zero, List.getElem_cons_succ, List.setIfInBounds_toArray, List.set_cons_zero, List.set_cons_succ]
            refine wpAnyY_done (by kernel_rfl) ?_ _
            go_wp2_with fail
            go_roundw
            case rel => exact ⟨k + 1, false, by omega, by omega, rfl, by go_num, fun e => (by cases e), hG.t ga⟩
            case measure => simp [intOf] <;> omega
      · have hki : ¬ (k : Int) < PL.length := by omega
        have HFA2 : Hid (fb = true → ∀ q, q + 1 < PL.length → PL.getD (q + 1) 0 ≤ PL.getD q 0) := fun e q hq => HFA.out e q (by omega)
        have g6 := g5.t hG
        have HGRP6 := Lib.hid (HGRP5.out.keep hG)
        have HRA6 := Lib.hid (HRA5.out.below hG)
        go_wp2_with fail
        go_loopw [13, 14] (fun vl i wr => ∃ (j : Nat) (la : Int), j ≤ GS.length ∧ vl = .int .i64 la ∧ i = .int .i64 j ∧ Hid ((j = 0 ∧ la = -1) ∨ (0 < j ∧ la = wn (j - 1) ((GS.getD (j - 1) []).length - 1))) ∧ G wo wr) (fun _ i _ => GS.length - (intOf i).toNat)
        case atStart => exact ⟨0, -1, Nat.zero_le _, rfl, rfl, .inl ⟨rfl, rfl⟩, G.rf _⟩
        case round =>
          clear HFA hki hlt
          obtain ⟨j, la, hj, rfl, rfl, HLA, hG7⟩ := hrel
          obtain ⟨w7, rfl⟩ : ∃ w7, w7 = wr := ⟨_, rfl⟩
          by_cases hlt : j < GS.length
          · have hji : (j : Int) < GS.length := by omega
            obtain ⟨go, gia, gc, hge, hgo, hcello, hgin⟩ := HGRP6.out.keep hG7 j hlt
            subst hge
            obtain ⟨hgl, hg12⟩ := HTF.out.ne j hlt
            have HANY := Lib.hid (HTF.out.any j)
            have HWON := Lib.hid (HTF.out.won j)
            obtain ⟨GR, hGR⟩ : ∃ GR, GR = GS.getD j [] := ⟨_, rfl⟩
            have HGR := Lib.hid hGR
            rw [← hGR] at hcello hgin hgl hg12 HANY HWON
            clear hGR
            rcases hgin with hx | ⟨gi, oi, hie, hgi, hcelli⟩
            · rw [hx] at hgl; simp at hgl
            subst hie
            have HCI := Lib.hid hcelli
            clear hcelli
            have HFD := Lib.hid (fun (k : Nat) (hk : k < GR.length) (W : World) (hW : G wo W) => (show Calls Tryz.prog 23 #[.slice aa AL.length ac, .int .i64 (GR.getD k 0)] W (fun e w' => G W w' ∧ ∃ p0 p2, e = .returned (.tuple #[.agg #[.int .i64 p0, .int .i64 (wn j k), .int .i64 p2], .bool true])) from (find_any AL aa ac (GR.getD k 0) W (HRA6.out.below hW) (by omega)).mono (by
              rintro e w' ⟨h1, rfl⟩
              have a1 := HANY.out k hlt hk
              have a2 := HWON.out k hlt hk
              refine ⟨h1, (pzP AL (GR.getD k 0)).bird, (pzP AL (GR.getD k 0)).back, ?_⟩
              rw [a1, ← a2]
              rfl)))
            have m0 := hcello
            have l0 := hgo
            go_wp2_with fail
            clear m0 l0
            go_loopw [15, 16] (fun vl i wr => ∃ (k : Nat) (le : Int), k ≤ GR.length ∧ vl = .int .i64 le ∧ i = .int .i64 k ∧ Hid ((k = 0 ∧ le = -1) ∨ (0 < k ∧ le = wn j (k - 1))) ∧ G w7 wr) (fun _ i _ => GR.length - (intOf i).toNat)
            case atStart => exact ⟨0, -1, Nat.zero_le _, rfl, rfl, .inl ⟨rfl, rfl⟩, G.rf _⟩
            case round =>
              obtain ⟨k, le, hk, rfl, rfl, HLE, hG8⟩ := hrel
              obtain ⟨w8, rfl⟩ : ∃ w8, w8 = wr := ⟨_, rfl⟩
              by_cases hltk : k < GR.length
              · have hki : (k : Int) < GR.length := by omega
                have hgli : (0 : Int) < GR.length := by omega
                obtain ⟨x0, hx0⟩ : ∃ x, x = GR.getD 0 0 := ⟨_, rfl⟩
                obtain ⟨xk, hxk⟩ : ∃ x, x = GR.getD k 0 := ⟨_, rfl⟩
                obtain ⟨a1, ha1⟩ : ∃ x, x = wn j 0 := ⟨_, rfl⟩
                obtain ⟨b1, hb1⟩ : ∃ x, x = wn j k := ⟨_, rfl⟩
                have HC0 := Lib.hid (HFD.out 0 hgl)
                have HCK := Lib.hid (HFD.out k hltk)
                have HX0C : Hid (w7.cell? ⟨gi, oi, none⟩ = some (.int .i64 x0)) := by rw [hx0]; exact HCI.out 0 hgl
                have HXKC : Hid (w7.cell? ⟨gi, oi + k, none⟩ = some (.int .i64 xk)) := by rw [hxk]; exact HCI.out k hltk
                rw [← hx0, ← ha1] at HC0
                rw [← hxk, ← hb1] at HCK
                have hlo : b1 ≤ a1 ∧ a1 - 1 ≤ b1 := by rw [hb1, ha1]; exact HTF.out.lo j k hlt (by rw [← HGR.out]; exact hltk)
                have hbd : 0 ≤ a1 ∧ a1 ≤ 1200000 := by rw [ha1]; exact HTF.out.bd j 0 hlt (by rw [← HGR.out]; exact hgl)
                have HXK := Lib.hid hxk
                have HB1 := Lib.hid hb1
                have HSTEP : Hid ((k + 1 = 0 ∧ b1 = -1) ∨ (0 < k + 1 ∧ b1 = wn j (k + 1 - 1))) := .inr ⟨by omega, hb1⟩
                clear hx0 hxk ha1 hb1
                have hwa : IntKind.i64.wrap (a1 - 1) = a1 - 1 := IntWalk.i64_in _ (by omega)
                have hba : ¬ a1 < b1 := by omega
                have hbl : ¬ b1 < a1 - 1 := by omega
                have n0 : w8.cell? ⟨go, j, none⟩ = some (.slice (some ⟨gi, oi, none⟩) GR.length gc) := ((bcellB hG8).1 go _ hgo).trans hcello
                have ln := Nat.lt_of_lt_of_le hgo hG8.size
                have q0 : w8.cell? ⟨gi, oi, none⟩ = some (.int .i64 x0) := ((bcellB hG8).1 gi _ hgi).trans HX0C.out
                have qk : w8.cell? ⟨gi, oi + k, none⟩ = some (.int .i64 xk) := ((bcellB hG8).1 gi _ hgi).trans HXKC.out
                have li := Nat.lt_of_lt_of_le hgi hG8.size
                go_upto_region 22 with (go_at_call 23; refine (HC0.out _ (hG7.t hG8)).mono ?_; rintro e w9 ⟨hG9, a0, a2, rfl⟩)
                have bA := Blk.new w9 40 #[.int .i64 a0, .int .i64 a1, .int .i64 a2]
                have g9a := hG9.a (.cells #[.int .i64 a0, .int .i64 a1, .int .i64 a2] 40)
                obtain ⟨KA, hKA⟩ : ∃ KA, KA = w9.heap.size := ⟨_, rfl⟩
                change Code.wp _ _ _ _ (w9.alloc (.cells #[.int .i64 a0, .int .i64 a1, .int .i64 a2] 40))
                rw [← hKA] at bA ⊢
                clear hKA hG9 n0 ln q0 qk li HC0
                generalize w9.alloc (.cells #[.int .i64 a0, .int .i64 a1, .int .i64 a2] 40) = w10 at *
                have g10 := hG8.t g9a
                clear g9a
                have n0 : w10.cell? ⟨go, j, none⟩ = some (.slice (some ⟨gi, oi, none⟩) GR.length gc) := ((bcellB g10).1 go _ hgo).trans hcello
                have ln := Nat.lt_of_lt_of_le hgo g10.size
                have q0 : w10.cell? ⟨gi, oi, none⟩ = some (.int .i64 x0) := ((bcellB g10).1 gi _ hgi).trans HX0C.out
                have qk : w10.cell? ⟨gi, oi + k, none⟩ = some (.int .i64 xk) := ((bcellB g10).1 gi _ hgi).trans HXKC.out
                have li := Nat.lt_of_lt_of_le hgi g10.size
                go_upto_region 23 with (go_at_call 23; refine (HCK.out _ (hG7.t g10)).mono ?_; rintro e w11 ⟨hG11, b0, b2, rfl⟩)
                have bB := Blk.new w11 40 #[.int .i64 b0, .int .i64 b1, .int .i64 b2]
                have g11a := hG11.a (.cells #[.int .i64 b0, .int .i64 b1, .int .i64 b2] 40)
                have bA2 := (bA.keep hG11).alloc (.cells #[.int .i64 b0, .int .i64 b1, .int .i64 b2] 40)
                obtain ⟨KB, hKB⟩ : ∃ KB, KB = w11.heap.size := ⟨_, rfl⟩
                change Code.wp _ _ _ _ (w11.alloc (.cells #[.int .i64 b0, .int .i64 b1, .int .i64 b2] 40))
                rw [← hKB] at bB ⊢
                clear hKB hG11 n0 ln q0 qk li bA HCK
                generalize w11.alloc (.cells #[.int .i64 b0, .int .i64 b1, .int .i64 b2] 40) = w12 at *
                have g12 := g10.t g11a
                clear g11a
                have u0 : w12.cell? ⟨KA, 1, none⟩ = some (.int .i64 a1) := bA2.cell 1
                have u1 := bA2.lt
                have v0 : w12.cell? ⟨KB, 1, none⟩ = some (.int .i64 b1) := bB.cell 1
                have v1 := bB.lt
                by_cases hk0 : k = 0
                · subst hk0
                  have hki0 : ¬ (0 : Int) < ((0 : Nat) : Int) := by omega
                  have gzz := g12
                  cases fb
                  · have hX : True := trivial
                    go_wp2_with fail
                    go_roundw
                    case rel => exact ⟨0 + 1, b1, by omega, rfl, by go_num, HSTEP.out, gzz⟩
                    case measure => simp [intOf] <;> omega
                  · rcases HLA.out with ⟨-, hla⟩ | ⟨hj0, hla⟩
                    · subst hla
                      go_wp2_with fail
                      go_roundw
                      case rel => exact ⟨0 + 1, b1, by omega, rfl, by go_num, HSTEP.out, gzz⟩
                      case measure => simp [intOf] <;> omega
                    · have hla0 : 0 ≤ la := by rw [hla]; exact (HTF.out.bd (j - 1) ((GS.getD (j - 1) []).length - 1) (by omega) (by have := (HTF.out.ne (j - 1) (by omega)).1; omega)).1
                      have hlab : la ≤ 1200000 := by rw [hla]; exact (HTF.out.bd (j - 1) ((GS.getD (j - 1) []).length - 1) (by omega) (by have := (HTF.out.ne (j - 1) (by omega)).1; omega)).2
                      have hfa : b1 ≤ la + 1 := by
                        rw [hla, HB1.out]
                        have h9 := HTF.out.fa (HFA2.out rfl) (j - 1) ((GS.getD (j - 1) []).length - 1) 0 (by omega) (by have := (HTF.out.ne (j - 1) (by omega)).1; omega) (by rw [show j - 1 + 1 = j by omega, ← HGR.out]; omega)
                        rw [show j - 1 + 1 = j by omega] at h9
                        exact h9
                      have hwl : IntKind.i64.wrap (la + 1) = la + 1 := IntWalk.i64_in _ (by omega)
                      clear hla
                      go_wp2_with fail
                      go_roundw
                      case rel => exact ⟨0 + 1, b1, by omega, rfl, by go_num, HSTEP.out, gzz⟩
                      case measure => simp [intOf] <;> omega
                · have hki0 : (0 : Int) < (k : Int) := by omega
                  obtain ⟨m, hm⟩ : ∃ m, m = k - 1 := ⟨_, rfl⟩
                  have hmk : (k : Int) - 1 = (m : Int) := by omega
                  have hws : IntKind.i64.wrap ((k : Int) - 1) = (m : Int) := by rw [hmk]; exact IntWalk.i64_in _ (by omega)
                  have hml : m < GR.length := by omega
                  have hmi : (m : Int) < GR.length := by omega
                  obtain ⟨xm, hxm⟩ : ∃ x, x = GR.getD m 0 := ⟨_, rfl⟩
                  obtain ⟨c1, hc1⟩ : ∃ x, x = wn j m := ⟨_, rfl⟩
                  have HCM := Lib.hid (HFD.out m hml)
                  rw [← hxm, ← hc1] at HCM
                  have hstt := HTF.out.st j m hlt (by rw [← HGR.out]; omega)
                  rw [← HGR.out, show m + 1 = k by omega, ← hxm, ← HXK.out, ← HB1.out, ← hc1] at hstt
                  have HXMC : Hid (w7.cell? ⟨gi, oi + m, none⟩ = some (.int .i64 xm)) := by rw [hxm]; exact HCI.out m hml
                  have hd1 : decide (xk ≤ xm) = false := decide_eq_false (by omega)
                  have hd2 : decide (c1 < b1) = false := decide_eq_false (by omega)
                  clear hm hmk hxm hc1 hstt
                  have n0 : w12.cell? ⟨go, j, none⟩ = some (.slice (some ⟨gi, oi, none⟩) GR.length gc) := ((bcellB g12).1 go _ hgo).trans hcello
                  have ln := Nat.lt_of_lt_of_le hgo g12.size
                  have q0 : w12.cell? ⟨gi, oi, none⟩ = some (.int .i64 x0) := ((bcellB g12).1 gi _ hgi).trans HX0C.out
                  have qk : w12.cell? ⟨gi, oi + k, none⟩ = some (.int .i64 xk) := ((bcellB g12).1 gi _ hgi).trans HXKC.out
                  have li := Nat.lt_of_lt_of_le hgi g12.size
                  have qm : w12.cell? ⟨gi, oi + m, none⟩ = some (.int .i64 xm) := ((bcellB g12).1 gi _ hgi).trans HXMC.out
                  go_upto_region 27 with (go_at_call 23; refine (HCM.out _ (hG7.t g12)).mono ?_; rintro e w13 ⟨hG13, c0, c2, rfl⟩)
                  have bC := Blk.new w13 40 #[.int .i64 c0, .int .i64 c1, .int .i64 c2]
                  have g13a := hG13.a (.cells #[.int .i64 c0, .int .i64 c1, .int .i64 c2] 40)
                  have bB2 := (bB.keep hG13).alloc (.cells #[.int .i64 c0, .int .i64 c1, .int .i64 c2] 40)
                  obtain ⟨KC, hKC⟩ : ∃ KC, KC = w13.heap.size := ⟨_, rfl⟩
                  change Code.wp _ _ _ _ (w13.alloc (.cells #[.int .i64 c0, .int .i64 c1, .int .i64 c2] 40))
                  rw [← hKC] at bC ⊢
                  clear hKC hG13 n0 ln q0 qk li qm u0 u1 v0 v1 bA2 bB HCM
                  generalize w13.alloc (.cells #[.int .i64 c0, .int .i64 c1, .int .i64 c2] 40) = w14 at *
                  have g14 := g12.t g13a
                  clear g13a
                  have hSk : ∀ W', G w14 W' → (W'.cell? ⟨go, j, none⟩ = some (.slice (some ⟨gi, oi, none⟩) GR.length gc) ∧ go < W'.heap.size) ∧ (W'.cell? ⟨gi, oi + k, none⟩ = some (.int .i64 xk) ∧ W'.cell? ⟨gi, oi + m, none⟩ = some (.int .i64 xm) ∧ gi < W'.heap.size) ∧ (W'.cell? ⟨KB, 1, none⟩ = some (.int .i64 b1) ∧ KB < W'.heap.size) ∧ W'.cell? ⟨KC, 1, none⟩ = some (.int .i64 c1) ∧ KC < W'.heap.size := fun W' hW => by
                    have hh := g14.t hW
                    exact ⟨⟨((bcellB hh).1 go _ hgo).trans hcello, Nat.lt_of_lt_of_le hgo hh.size⟩, ⟨((bcellB hh).1 gi _ hgi).trans HXKC.out, ((bcellB hh).1 gi _ hgi).trans HXMC.out, Nat.lt_of_lt_of_le hgi hh.size⟩, ⟨(bB2.keep hW).cell 1, (bB2.keep hW).lt⟩, (bC.keep hW).cell 1, (bC.keep hW).lt⟩
                  refine wp_region_Y (S := fun W' => (W'.cell? ⟨go, j, none⟩ = some (.slice (some ⟨gi, oi, none⟩) GR.length gc) ∧ go < W'.heap.size) ∧ (W'.cell? ⟨gi, oi + k, none⟩ = some (.int .i64 xk) ∧ W'.cell? ⟨gi, oi + m, none⟩ = some (.int .i64 xm) ∧ gi < W'.heap.size) ∧ (W'.cell? ⟨KB, 1, none⟩ = some (.int .i64 b1) ∧ KB < W'.heap.size) ∧ W'.cell? ⟨KC, 1, none⟩ = some (.int .i64 c1) ∧ KC < W'.heap.size) 22 23 rfl (by kernel_rfl) (hSk _ (G.rf _).d) (fun hS => ?_)
                  have ga := (G.rf w14).d
                  refine wpAnyY_take (i := 0) (v := ?_) rfl (by kernel_rfl) (by kernel_rfl) (by kernel_rfl) (by kernel_rfl) (fun _ _ _ h => h) (Or.inl ⟨by kernel_rfl, ?_⟩) hS ?_
                  rotate_left
                  · intro w' hSw; go_simp; with_reducible rfl
                  try simp only [Act.put, List.getElem_toArray, List.getElem_cons_zero, List.getElem_cons_succ, List.setIfInBounds_toArray, List.set_cons_zero, List.set_cons_succ]
                  refine wpAnyY_take (i := 1) (v := ?_) rfl (by kernel_rfl) (by kernel_rfl) (by kernel_rfl) (by kernel_rfl) (fun _ _ _ h => h) (Or.inl ⟨by kernel_rfl, ?_⟩) hS ?_
                  rotate_left
                  · intro w' hSw; go_simp; with_reducible rfl
                  try simp only [Act.put, List.getElem_toArray, List.getElem_cons_zero, List.getElem_cons_succ, List.setIfInBounds_toArray, List.set_cons_zero, List.set_cons_succ]
                  refine wpAnyY_take (i := 2) (v := ?_) rfl (by kernel_rfl) (by kernel_rfl) (by kernel_rfl) (by kernel_rfl) (fun _ _ _ h => h) (Or.inl ⟨by kernel_rfl, ?_⟩) hS ?_
                  rotate_left
                  · intro w' hSw; go_simp; with_reducible rfl
                  try simp only [Act.put, List.getElem_toArray, List.getElem_cons_zero, List.getElem_cons_succ, List.setIfInBounds_toArray, List.set_cons_zero, List.set_cons_succ]
                  refine wpAnyY_take (i := 3) (v := ?_) rfl (by kernel_rfl) (by kernel_rfl) (by kernel_rfl) (by kernel_rfl) (fun _ _ _ h => h) (Or.inl ⟨by kernel_rfl, ?_⟩) hS ?_
                  rotate_left
                  · intro w' hSw; obtain ⟨⟨s0, s1⟩, ⟨s2, s3, s4⟩, ⟨s5, s6⟩, s7, s8⟩ := hSw; go_simp; with_reducible rfl
                  try simp only [Act.put, List.getElem_toArray, List.getElem_cons_zero, List.getElem_cons_succ, List.setIfInBounds_toArray, List.set_cons_zero, List.set_cons_succ]
                  refine wpAnyY_take (i := 4) (v := ?_) rfl (by kernel_rfl) (by kernel_rfl) (by kernel_rfl) (by kernel_rfl) (fun _ _ _ h => h) (Or.inl ⟨by kernel_rfl, ?_⟩) hS ?_
                  rotate_left
                  · intro w' hSw; go_simp; with_reducible rfl
                  try simp only [Act.put, List.getElem_toArray, List.getElem_cons_zero, List.getElem_cons_succ, List.setIfInBounds_toArray, List.set_cons_zero, List.set_cons_succ]
                  refine wpAnyY_take (i := 5) (v := ?_) rfl (by kernel_rfl) (by kernel_rfl) (by kernel_rfl) (by kernel_rfl) (fun _ _ _ h => h) (Or.inl ⟨by kernel_rfl, ?_⟩) hS ?_
                  rotate_left
                  · intro w' hSw; go_simp; with_reducible rfl
                  try simp only [Act.put, List.getElem_toArray, List.getElem_cons_zero, List.getElem_cons_succ, List.setIfInBounds_toArray, List.set_cons_zero, List.set_cons_succ]
                  refine wpAnyY_take (i := 6) (v := ?_) rfl (by kernel_rfl) (by kernel_rfl) (by kernel_rfl) (by kernel_rfl) (fun _ _ _ h => h) (Or.inl ⟨by kernel_rfl, ?_⟩) hS ?_
                  rotate_left
                  · intro w' hSw; obtain ⟨⟨s0, s1⟩, ⟨s2, s3, s4⟩, ⟨s5, s6⟩, s7, s8⟩ := hSw; go_simp; with_reducible rfl
                  try simp only [Act.put, List.getElem_toArray, List.getElem_cons_zero, List.getElem_cons_succ, List.setIfInBounds_toArray, List.set_cons_zero, List.set_cons_succ]
                  refine wpAnyY_take (i := 7) (v := ?_) rfl (by kernel_rfl) (by kernel_rfl) (by kernel_rfl) (by kernel_rfl) (fun _ _ _ h => h) (Or.inl ⟨by kernel_rfl, ?_⟩) hS ?_
                  rotate_left
                  · intro w' hSw; go_simp; with_reducible rfl
                  try simp only [Act.put, List.getElem_toArray, List.getElem_cons_zero, List.getElem_cons_succ, List.setIfInBounds_toArray, List.set_cons_zero, List.set_cons_succ]
                  refine wpAnyY_take (i := 8) (v := ?_) rfl (by kernel_rfl) (by kernel_rfl) (by kernel_rfl) (by kernel_rfl) (fun _ _ _ h => h) (Or.inl ⟨by kernel_rfl, ?_⟩) hS ?_
                  rotate_left
                  · intro w' hSw; go_simp; with_reducible rfl
                  try simp only [Act.put, List.getElem_toArray, List.getElem_cons_zero, List.getElem_cons_succ, List.setIfInBounds_toArray, List.set_cons_zero, List.set_cons_succ]
                  refine wpAnyY_take (i := 9) (v := ?_) rfl (by kernel_rfl) (by kernel_rfl) (by kernel_rfl) (by kernel_rfl) (fun _ _ _ h => h) (Or.inl ⟨by kernel_rfl, ?_⟩) hS ?_
                  rotate_left
                  · intro w' hSw; go_simp; with_reducible rfl
                  try simp only [Act.put, List.getElem_toArray, List.getElem_cons_zero, List.getElem_cons_succ, List.setIfInBounds_toArray, List.set_cons_zero, List.set_cons_succ]
                  refine wpAnyY_take (i := 10) (v := ?_) rfl (by kernel_rfl) (by kernel_rfl) (by kernel_rfl) (by kernel_rfl) (fun _ _ _ h => h) (Or.inl ⟨by kernel_rfl, ?_⟩) hS ?_
                  rotate_left
                  · intro w' hSw; obtain ⟨⟨s0, s1⟩, ⟨s2, s3, s4⟩, ⟨s5, s6⟩, s7, s8⟩ := hSw; go_simp; with_reducible rfl
                  try simp only [Act.put, List.getElem_toArray, List.getElem_cons_zero, List.getElem_cons_succ, List.setIfInBounds_toArray, List.set_cons_zero, List.set_cons_succ]
                  refine wpAnyY_take (i := 11) (v := ?_) rfl (by kernel_rfl) (by kernel_rfl) (by kernel_rfl) (by kernel_rfl) (fun _ _ _ h => h) (Or.inl ⟨by kernel_rfl, ?_⟩) hS ?_
                  rotate_left
                  · intro w' hSw; go_simp; with_reducible rfl
                  try simp only [Act.put, List.getElem_toArray, List.getElem_cons_zero, List.getElem_cons_succ, List.setIfInBounds_toArray, List.set_cons_zero, List.set_cons_succ]
                  refine wpAnyY_take (i := 12) (v := ?_) rfl (by kernel_rfl) (by kernel_rfl) (by kernel_rfl) (by kernel_rfl) (fun _ _ _ h => h) (Or.inl ⟨by kernel_rfl, ?_⟩) hS ?_
                  rotate_left
                  · intro w' hSw; go_simp; with_reducible rfl
                  try simp only [Act.put, List.getElem_toArray, List.getElem_cons_zero, List.getElem_cons_succ, List.setIfInBounds_toArray, List.set_cons_zero, List.set_cons_succ]
                  refine wpAnyY_take (i := 13) (v := ?_) rfl (by kernel_rfl) (by kernel_rfl) (by kernel_rfl) (by kernel_rfl) (fun _ _ _ h => h) (Or.inl ⟨by kernel_rfl, ?_⟩) hS ?_
                  rotate_left
                  · intro w' hSw; go_simp; with_reducible rfl
                  try simp only [Act.put, List.getElem_toArray, List.getElem_cons_zero, List.getElem_cons_succ, List.setIfInBounds_toArray, List.set_cons_zero, List.set_cons_succ]
                  refine wpAnyY_take (i := 14) (v := ?_) rfl (by kernel_rfl) (by kernel_rfl) (by kernel_rfl) (by kernel_rfl) (fun _ _ _ h => h) (Or.inl ⟨by kernel_rfl, ?_⟩) hS ?_
                  rotate_left
                  · intro w' hSw; obtain ⟨⟨s0, s1⟩, ⟨s2, s3, s4⟩, ⟨s5, s6⟩, s7, s8⟩ := hSw; go_simp; with_reducible rfl
                  try simp only [Act.put, List.getElem_toArray, List.getElem_cons_zero, List.getElem_cons_succ, List.setIfInBounds_toArray, List.set_cons_zero, List.set_cons_succ]
                  refine wpAnyY_take (i := 15) (v := ?_) rfl (by kernel_rfl) (by kernel_rfl) (by kernel_rfl) (by kernel_rfl) (fun _ _ _ h => h) (Or.inl ⟨by kernel_rfl, ?_⟩) hS ?_
                  rotate_left
                  · intro w' hSw; go_simp; with_reducible rfl
                  try simp only [Act.put, List.getElem_toArray, List.getElem_cons_zero, List.getElem_cons_succ, List.setIfInBounds_toArray, List.set_cons_zero, List.set_cons_succ]
                  refine wpAnyY_take (i := 16) (v := ?_) rfl (by kernel_rfl) (by kernel_rfl) (by kernel_rfl) (by kernel_rfl) (fun _ _ _ h => h) (Or.inl ⟨by kernel_rfl, ?_⟩) hS ?_
                  rotate_left
                  · intro w' hSw; go_simp; with_reducible rfl
                  try simp only [Act.put, List.getElem_toArray, List.getElem_cons_zero, List.getElem_cons_succ, List.setIfInBounds_toArray, List.set_cons_zero, List.set_cons_succ]
                  refine wpAnyY_take (i := 17) (v := ?_) rfl (by kernel_rfl) (by kernel_rfl) (by kernel_rfl) (by kernel_rfl) (fun _ _ _ h => h) (Or.inl ⟨by kernel_rfl, ?_⟩) hS ?_
                  rotate_left
                  · intro w' hSw; go_simp; with_reducible rfl
                  try simp only [Act.put, List.getElem_toArray, List.getElem_cons_zero, List.getElem_cons_succ, List.setIfInBounds_toArray, List.set_cons_zero, List.set_cons_succ]
                  refine wpAnyY_take (i := 18) (v := ?_) rfl (by kernel_rfl) (by kernel_rfl) (by kernel_rfl) (by kernel_rfl) (fun _ _ _ h => h) (Or.inl ⟨by kernel_rfl, ?_⟩) hS ?_
                  rotate_left
                  · intro w' hSw; obtain ⟨⟨s0, s1⟩, ⟨s2, s3, s4⟩, ⟨s5, s6⟩, s7, s8⟩ := hSw; go_simp; with_reducible rfl
                  try simp only [Act.put, List.getElem_toArray, List.getElem_cons_zero, List.getElem_cons_succ, List.setIfInBounds_toArray, List.set_cons_zero, List.set_cons_succ]
                  refine wpAnyY_take (i := 19) (v := ?_) rfl (by kernel_rfl) (by kernel_rfl) (by kernel_rfl) (by kernel_rfl) (fun _ _ _ h => h) (Or.inl ⟨by kernel_rfl, ?_⟩) hS ?_
                  rotate_left
                  · intro w' hSw; go_simp; with_reducible rfl
                  try simp only [Act.put, List.getElem_toArray, List.getElem_cons_zero, List.getElem_cons_succ, List.setIfInBounds_toArray, List.set_cons_zero, List.set_cons_succ]
                  refine wpAnyY_take (i := 20) (v := ?_) rfl (by kernel_rfl) (by kernel_rfl) (by kernel_rfl) (by kernel_rfl) (fun _ _ _ h => h) (Or.inl ⟨by kernel_rfl, ?_⟩) hS ?_
                  rotate_left
                  · intro w' hSw; obtain ⟨⟨s0, s1⟩, ⟨s2, s3, s4⟩, ⟨s5, s6⟩, s7, s8⟩ := hSw; go_simp; with_reducible rfl
                  try simp only [Act.put, List.getElem_toArray, List.getElem_cons_zero, List.getElem_cons_succ, List.setIfInBounds_toArray, List.set_cons_zero, List.set_cons_succ]
                  refine wpAnyY_take (i := 21) (v := ?_) rfl (by kernel_rfl) (by kernel_rfl) (by kernel_rfl) (by kernel_rfl) (fun _ _ _ h => h) (Or.inl ⟨by kernel_rfl, ?_⟩) hS ?_
                  rotate_left
                  · intro w' hSw; go_simp; with_reducible rfl
                  try simp only [Act.put, List.getElem_toArray, List.getElem_cons_zero, List.getElem_cons_succ, List.setIfInBounds_toArray, List.set_cons_zero, List.set_cons_succ]
                  refine wpAnyY_oneW (i := 22) (by kernel_rfl) rfl (by kernel_rfl) (by kernel_rfl) (fun K22 hK22 => ?_)
                  go_simp
                  refine hK22.out _ _ ?_
                  clear hK22
                  try simp only [Act.put, List.getElem_toArray, List.getElem_cons_zero, List.getElem_cons_succ, List.setIfInBounds_toArray, List.set_cons_zero, List.set_cons_succ]
                  refine wpAnyY_done (by kernel_rfl) ?_ _
                  have gzz := g14.t ga
                  have bD := bB2.keep ga
                  have v0 : w14.drew.cell? ⟨KB, 1, none⟩ = some (.int .i64 b1) := bD.cell 1
                  have v1 := bD.lt
                  clear hS hSk
                  cases fb
                  · have hX : True := trivial
                    go_wp2_with fail
                    go_roundw
                    case rel => exact ⟨k + 1, b1, by omega, rfl, by go_num, HSTEP.out, gzz⟩
                    case measure => simp [intOf] <;> omega
                  · rcases HLA.out with ⟨-, hla⟩ | ⟨hj0, hla⟩
                    · subst hla
                      go_wp2_with fail
                      go_roundw
                      case rel => exact ⟨k + 1, b1, by omega, rfl, by go_num, HSTEP.out, gzz⟩
                      case measure => simp [intOf] <;> omega
                    · have hla0 : 0 ≤ la := by rw [hla]; exact (HTF.out.bd (j - 1) ((GS.getD (j - 1) []).length - 1) (by omega) (by have := (HTF.out.ne (j - 1) (by omega)).1; omega)).1
                      have hlab : la ≤ 1200000 := by rw [hla]; exact (HTF.out.bd (j - 1) ((GS.getD (j - 1) []).length - 1) (by omega) (by have := (HTF.out.ne (j - 1) (by omega)).1; omega)).2
                      have hfa : b1 ≤ la + 1 := by
                        rw [hla, HB1.out]
                        have h9 := HTF.out.fa (HFA2.out rfl) (j - 1) ((GS.getD (j - 1) []).length - 1) k (by omega) (by have := (HTF.out.ne (j - 1) (by omega)).1; omega) (by rw [show j - 1 + 1 = j by omega, ← HGR.out]; omega)
                        rw [show j - 1 + 1 = j by omega] at h9
                        exact h9
                      have hwl : IntKind.i64.wrap (la + 1) = la + 1 := IntWalk.i64_in _ (by omega)
                      clear hla
                      go_wp2_with fail
                      go_roundw
                      case rel => exact ⟨k + 1, b1, by omega, rfl, by go_num, HSTEP.out, gzz⟩
                      case measure => simp [intOf] <;> omega
              · have hki : ¬ (k : Int) < GR.length := by omega
                have m0 : w8.cell? ⟨go, j, none⟩ = some (.slice (some ⟨gi, oi, none⟩) GR.length gc) := ((bcellB hG8).1 go _ hgo).trans hcello
                have l0 := Nat.lt_of_lt_of_le hgo hG8.size
                have hgn : ¬ (GR.length : Int) = 0 := by omega
                have hgn2 : ((GR.length : Int) == 0) = false := by simpa using hgn
                have hgn3 : ¬ GR = [] := fun e => by rw [e] at hgl; simp at hgl
                have HNX : Hid (le = wn j (GR.length - 1)) := by
                  rcases HLE.out with ⟨h1, _⟩ | ⟨_, h2⟩
                  · omega
                  · rw [show GR.length - 1 = k - 1 by omega]; exact h2
                go_wp2_with fail
                go_roundw
                case rel => exact ⟨j + 1, le, by omega, rfl, by go_num, .inr ⟨by omega, by rw [show j + 1 - 1 = j by omega, ← HGR.out]; exact HNX.out⟩, hG7.t hG8⟩
                case measure => simp [intOf] <;> omega
          · obtain rfl : j = GS.length := by omega
            have hji : ¬ ((GS.length : Nat) : Int) < GS.length := by omega
            go_wp2_with (go_at_call 15; refine (HWK.out _).mono ?_; rintro e w16 ⟨rfl, hG16⟩)
            have gz := (g6.t hG7).t hG16
            first | exact ⟨rfl, gz⟩ | (go_ret; exact ⟨rfl, gz⟩)
end Go.Proofs.YtnkmcoljijmgpaaGreat
