import Derived.Test.YtnkmcoljijmgpaaGreatRn
import Derived.Test.YtnkmcoljijmgpaaGreatCf
set_option linter.unusedSimpArgs false
set_option linter.unusedVariables false
namespace Go.Proofs.YtnkmcoljijmgpaaGreat
open Go.RowKit Go.Shelf Go.Sort Go.Maps
attribute [local go_sem] Oper.semAt_some
set_option maxRecDepth 100000 in
set_option maxHeartbeats 8000000 in
theorem CentLaw (r : Ra) (w : World) (h : r.Laid w) : Calls Tryz.prog 3 #[.agg r.v] w fun e w' => e = .returned (.bool true) ∧ G w w' := by
  have HFA := Lib.hid (fun (W : World) (hW : G w W) => Far8_any r W (h.keep hW))
  have HCH := Lib.hid (fun (hf : farR r = false) (W : World) (hW : G w W) => refCheck8_any r W ((h.keep hW).at hf))
  have HWK := Lib.hid (fun (W : World) => works_any W)
  have HATF : Hid (farR r = false → r.At w) := fun hf => h.at hf
  unfold chk8 at HCH
  have hrv : r.v = #[.slice r.ra r.racers.length r.rc, .slice r.pa r.pools.length r.pc, .slice r.ta r.protests.length r.tc] := rfl
  obtain ⟨W1, hW1⟩ : ∃ W1, W1 = w.alloc (.cells #[.slice r.ra r.racers.length r.rc, .slice r.pa r.pools.length r.pc, .slice r.ta r.protests.length r.tc] 26) := ⟨_, rfl⟩
  have g0 : G w W1 := by rw [hW1]; exact (G.rf _).a _
  have b0 : Blk W1 w.heap.size 26 #[.slice r.ra r.racers.length r.rc, .slice r.pa r.pools.length r.pc, .slice r.ta r.protests.length r.tc] := by rw [hW1]; exact Blk.new _ _ _
  rw [hrv] at HFA HCH ⊢
  clear h
  go_enter Tryz.func3, Tryz.ntmps3
  go_upto_region 1 with fail
  change Code.wp _ _ _ _ (w.alloc (.cells #[.slice r.ra r.racers.length r.rc, .slice r.pa r.pools.length r.pc, .slice r.ta r.protests.length r.tc] 26))
  rw [← hW1]
  clear hW1
  have m0 := b0.cell 0
  have m1 := b0.cell 1
  have m2 := b0.cell 2
  have l0 := b0.lt
  cases hFR : farR r
  · rw [hFR] at HFA
    have HCH2 := Lib.hid (HCH.out hFR)
    clear HCH
    cases hRB : raceB r
    · rw [hRB] at HCH2
      simp only [Bool.false_eq_true, if_false] at HCH2
      clear hFR hRB hrv
      go_wp2_with (first | (go_at_call 13; refine (HFA.out _ g0).mono ?_; rintro e w2 ⟨rfl, hG2⟩; clear m0 m1 m2 l0; have m0 := (b0.keep hG2).cell 0; have m1 := (b0.keep hG2).cell 1; have m2 := (b0.keep hG2).cell 2; have l0 := (b0.keep hG2).lt) | (go_at_call 14; refine (HCH2.out _ (g0.t hG2)).mono ?_; rintro e w3 ⟨rfl, hG3⟩) | (go_at_call 15; refine (HWK.out _).mono ?_; rintro e w4 ⟨rfl, hG4⟩))
      have gz := ((g0.t hG2).t hG3).t hG4
      first | exact ⟨rfl, gz⟩ | (go_ret; exact ⟨rfl, gz⟩)
    · rw [hRB] at HCH2
      simp only [if_true] at HCH2
      have hat := HATF.out hFR
      have hq0 : ∀ j : Nat, j < r.pools.length → qE r j [] = 0 := fun j hj => by
        unfold qE
        rw [if_pos hRB, if_pos (inB_pool hj)]
        rfl
      have h12 := (uniq_of (race_parts hRB)).1
      have hp6 := race_pools hRB
      obtain ⟨AF, hAF⟩ : ∃ AF : Nat → List Pz, AF = fun j : Nat => prizesL (fuOf r j none 0) := ⟨_, rfl⟩
      obtain ⟨NF, hNF⟩ : ∃ NF : Nat → List Int, NF = fun j : Nat => namedL r j := ⟨_, rfl⟩
      obtain ⟨TF, hTF⟩ : ∃ TF : Nat → Int, TF = fun j : Nat => totI (fuOf r j none 0) := ⟨_, rfl⟩
      obtain ⟨CF, hCF⟩ : ∃ CF : Nat → Int, CF = fun j : Nat => kepI (fuOf r j none 0) := ⟨_, rfl⟩
      obtain ⟨LF, hLF⟩ : ∃ LF : Nat → Int, LF = fun j : Nat => lefI (fuOf r j none 0) := ⟨_, rfl⟩
      obtain ⟨RF, hRF⟩ : ∃ RF : Nat → Int, RF = fun j : Nat => resI (fuOf r j none 0) [] := ⟨_, rfl⟩
      have HCEN : Hid (∀ j, j < r.pools.length → CenP (AF j) (NF j) (r.pools.getD j default).stake (TF j) (CF j) (LF j) (RF j)) := by
        rw [hAF, hNF, hTF, hCF, hLF, hRF]
        exact fun j hj => cen_pool hRB hj
      have HNA : Hid (∀ j, j < r.pools.length → ∀ W, G w W → Calls Tryz.prog 16 #[.agg #[.slice r.ra r.racers.length r.rc, .slice r.pa r.pools.length r.pc, .slice r.ta r.protests.length r.tc], .int .i64 (j : Nat)] W fun e w' => G W w' ∧ ∃ a c, e = .returned (.slice a (AF j).length c) ∧ IntsAt w' a (NF j)) := fun j hj W hW => by
        have hl := (HCEN.out j hj).len
        rw [hAF, hNF] at hl ⊢
        exact naQ0 r j _ W (hat.keep hW) hl
      have HPO : Hid (∀ j, j < r.pools.length → ∀ W, G w W → Calls Tryz.prog 17 #[.agg #[.slice r.ra r.racers.length r.rc, .slice r.pa r.pools.length r.pc, .slice r.ta r.protests.length r.tc], .int .i64 (j : Nat)] W fun e w' => G W w' ∧ e = .returned (.tuple #[.agg #[.int .i64 (TF j), .int .i64 (CF j), .int .i64 (LF j), .int .i64 (RF j)], .int .i64 0])) := fun j hj W hW => by
        rw [hTF, hCF, hLF, hRF]
        exact potQ0 r j W (hat.keep hW) (hq0 j hj)
      have HPR : Hid (∀ j, j < r.pools.length → ∀ W, G w W → Calls Tryz.prog 18 #[.agg #[.slice r.ra r.racers.length r.rc, .slice r.pa r.pools.length r.pc, .slice r.ta r.protests.length r.tc], .int .i64 (j : Nat)] W fun e w' => G W w' ∧ ∃ a c, e = .returned (.tuple #[.slice a (AF j).length c, .int .i64 0]) ∧ RowE Pz.v 3 w' a (AF j)) := fun j hj W hW => by
        rw [hAF]
        exact prQ0 r j W (hat.keep hW) (hq0 j hj)
      have HPU := Lib.hid (fun (W : World) (hW : G w W) => purC r W (hat.keep hW) hRB)
      have HCQ : Hid (CenQ (pursesL r) r.racers.length (sumK TF r.pools.length) (sumK TF r.pools.length - sumK CF r.pools.length)) := by
        rw [hTF, hCF]
        exact cen_purses hRB
      generalize pursesL r = QL at *
      have HTB : Hid (∀ k, k ≤ r.pools.length → 0 ≤ sumK TF k ∧ sumK TF k ≤ 1200000 * k) := sumK_bd (fun k hk => (HCEN.out k hk).tb)
      have HCB : Hid (∀ k, k ≤ r.pools.length → 0 ≤ sumK CF k ∧ sumK CF k ≤ 1200000 * k) := sumK_bd (fun k hk => by have h1 := (HCEN.out k hk).tb; have h2 := (HCEN.out k hk).c; omega)
      rw [hrv] at HPU
      have HPSR := Lib.hid hat.ps.row
      clear hAF hNF hTF hCF hLF hRF hat hq0 hRB hFR hrv HATF
      go_upto_region 3 with (first | (go_at_call 13; refine (HFA.out _ g0).mono ?_; rintro e w2 ⟨rfl, hG2⟩; clear m0 m1 m2 l0; have m0 := (b0.keep hG2).cell 0; have m1 := (b0.keep hG2).cell 1; have m2 := (b0.keep hG2).cell 2; have l0 := (b0.keep hG2).lt) | (go_at_call 14; refine (HCH2.out _ (g0.t hG2)).mono ?_; rintro e w3 ⟨rfl, hG3⟩))
      have g3 := (g0.t hG2).t hG3
      have b3 := (b0.keep hG2).keep hG3
      have HB3 := Lib.hid b3
      clear m0 m1 m2 l0 b3 b0 hG2 hG3 g0 HFA HCH2
      go_wp2_with fail
      go_loopw [3, 4, 5] (fun va vb i wr => ∃ (j : Nat) (tot cut : Int), j ≤ r.pools.length ∧ va = .int .i64 tot ∧ vb = .int .i64 cut ∧ i = .int .i64 j ∧ Hid (tot = sumK TF j) ∧ Hid (cut = sumK CF j) ∧ G w3 wr) (fun _ _ i _ => r.pools.length - (intOf i).toNat)
      case atStart => exact ⟨0, 0, 0, Nat.zero_le _, rfl, rfl, rfl, rfl, rfl, G.rf _⟩
      case round =>
        obtain ⟨j, tot, cut, hj, rfl, rfl, rfl, HTO, HCU, hG⟩ := hrel
        obtain ⟨wo, rfl⟩ : ∃ wo, wo = wr := ⟨_, rfl⟩
        have bo := HB3.out.keep hG
        have gwo := g3.t hG
        have m0 := bo.cell 0
        have m1 := bo.cell 1
        have m2 := bo.cell 2
        have l0 := bo.lt
        by_cases hlt : j < r.pools.length
        · have hji : (j : Int) < r.pools.length := by omega
          have hcp := HCEN.out j hlt
          have htb := HTB.out j hj
          have hcb := HCB.out j hj
          have HN1 := Lib.hid (HNA.out j hlt)
          have HP1 := Lib.hid (HPO.out j hlt)
          have HR1 := Lib.hid (HPR.out j hlt)
          obtain ⟨AL, hAL⟩ : ∃ x, x = AF j := ⟨_, rfl⟩
          obtain ⟨NL, hNL⟩ : ∃ x, x = NF j := ⟨_, rfl⟩
          obtain ⟨T, hT⟩ : ∃ x, x = TF j := ⟨_, rfl⟩
          obtain ⟨C, hC⟩ : ∃ x, x = CF j := ⟨_, rfl⟩
          obtain ⟨L, hL⟩ : ∃ x, x = LF j := ⟨_, rfl⟩
          obtain ⟨R, hR⟩ : ∃ x, x = RF j := ⟨_, rfl⟩
          rw [← hAL, ← hNL, ← hT, ← hC, ← hL, ← hR] at hcp
          rw [← hAL, ← hNL] at HN1
          rw [← hT, ← hC, ← hL, ← hR] at HP1
          rw [← hAL] at HR1
          rw [← HTO.out] at htb
          rw [← HCU.out] at hcb
          have HT := Lib.hid hT
          have HC := Lib.hid hC
          obtain ⟨c1, c2, c3, c4, c5, c6, c7, c8, c9, c10, c11, c12⟩ := hcp
          have HBI := Lib.hid c3
          have HWO := Lib.hid c4
          have HBA := Lib.hid c5
          have HTS := Lib.hid c6
          have HSU := Lib.hid c9
          have HLL := Lib.hid c10
          have HRR := Lib.hid c11
          have HNLL := Lib.hid c1
          clear hAL hNL hT hC hL hR c1 c3 c4 c5 c6 c9 c10 c11
          rcases HPSR.out.below gwo with hx | ⟨gp, op, hpe, hgp, hcellp⟩
          · omega
          have hpc0 := hcellp j hlt 0 (by omega)
          obtain ⟨y, hy⟩ : ∃ y, y = (r.pools.getD j default).stake := ⟨_, rfl⟩
          have q0 : wo.cell? ⟨gp, op + j * 6, none⟩ = some (.int .i64 y) := by rw [hy]; exact hpc0
          rw [← hy] at HTS
          have HQ0 := Lib.hid q0
          have HPE := Lib.hid hpe
          clear hpc0 hy q0 hcellp hpe
          go_upto_region 8 with (go_at_call 16; refine (HN1.out _ gwo).mono ?_; rintro e w2 ⟨hG2, na, nc, rfl, hni⟩)
          have HNI := Lib.hid hni
          clear m0 m1 m2 l0 hni HN1
          have b2 := bo.keep hG2
          have m0 := b2.cell 0
          have m1 := b2.cell 1
          have m2 := b2.cell 2
          have l0 := b2.lt
          go_upto_region 9 with (go_at_call 17; refine (HP1.out _ (gwo.t hG2)).mono ?_; rintro e w4 ⟨hG4, rfl⟩)
          have bP := Blk.new w4 33 #[.int .i64 T, .int .i64 C, .int .i64 L, .int .i64 R]
          have b4 := (b2.keep hG4).alloc (.cells #[.int .i64 T, .int .i64 C, .int .i64 L, .int .i64 R] 33)
          have g4a := (hG2.t hG4).a (.cells #[.int .i64 T, .int .i64 C, .int .i64 L, .int .i64 R] 33)
          have g2a := hG4.a (.cells #[.int .i64 T, .int .i64 C, .int .i64 L, .int .i64 R] 33)
          obtain ⟨KP, hKP⟩ : ∃ KP, KP = w4.heap.size := ⟨_, rfl⟩
          change Code.wp _ _ _ _ (w4.alloc (.cells #[.int .i64 T, .int .i64 C, .int .i64 L, .int .i64 R] 33))
          rw [← hKP] at bP ⊢
          clear hKP hG4 m0 m1 m2 l0 HP1
          generalize w4.alloc (.cells #[.int .i64 T, .int .i64 C, .int .i64 L, .int .i64 R] 33) = w5 at *
          have m0 := b4.cell 0
          have m1 := b4.cell 1
          have m2 := b4.cell 2
          have l0 := b4.lt
          go_upto_region 10 with (go_at_call 18; refine (HR1.out _ (gwo.t g4a)).mono ?_; rintro e w6 ⟨hG6, aa, ac, rfl, hra⟩)
          have HRA := Lib.hid hra
          have HNI6 := Lib.hid ((HNI.out.below g2a).below hG6)
          have g6 := g4a.t hG6
          have HBP := Lib.hid (bP.keep hG6)
          have HB6 := Lib.hid (b4.keep hG6)
          clear m0 m1 m2 l0 hra HR1 bP b4 b2 bo HNI g2a g4a hG2 hG6
          go_wp2_with fail
          go_loopw [11, 12, 13] (fun va vb i wr => ∃ (t : Nat) (sx sy : Int), t ≤ AL.length ∧ va = .int .i64 sx ∧ vb = .int .i64 sy ∧ i = .int .i64 t ∧ Hid (sx = sumT (AL.map Pz.won) t) ∧ Hid (sy = sumT (AL.map Pz.back) t) ∧ (0 ≤ sx ∧ sx ≤ 1200001 * t ∧ 0 ≤ sy ∧ sy ≤ 1200001 * t) ∧ G w6 wr) (fun _ _ i _ => AL.length - (intOf i).toNat)
          case atStart => exact ⟨0, 0, 0, Nat.zero_le _, rfl, rfl, rfl, rfl, rfl, by simp, G.rf _⟩
          case round =>
            obtain ⟨t, sx, sy, ht, rfl, rfl, rfl, HSX, HSY, hsb, hG7⟩ := hrel
            obtain ⟨w6', hw6⟩ : ∃ w6', w6' = w6 := ⟨_, rfl⟩
            obtain ⟨w8, rfl⟩ : ∃ w8, w8 = wr := ⟨_, rfl⟩
            clear hw6
            by_cases hltt : t < AL.length
            · have hti : (t : Int) < AL.length := by omega
              rcases HRA.out.below hG7 with hx | ⟨g1, o1, hge1, hg1, hc1⟩
              · omega
              rcases HNI6.out.below hG7 with hx | ⟨g2, o2, hge2, hg2, hc2⟩
              · have := HNLL.out; rw [hx] at this; simp at this; omega
              subst hge1 hge2
              have e1 := hc1 t hltt
              have e2 := hc2 t (by have := HNLL.out; omega)
              rw [HBI.out t hltt] at e2
              have hwn := HWO.out t hltt
              have hbk := HBA.out t hltt
              have HS1 := Lib.hid (sumT_succ Pz.won AL hltt)
              have HS2 := Lib.hid (sumT_succ Pz.back AL hltt)
              rw [← HSX.out] at HS1
              rw [← HSY.out] at HS2
              generalize AL.getD t default = X at *
              obtain ⟨x0, x1, x2⟩ := X
              dsimp only at hwn hbk e2 HS1 HS2
              unfold Pz.v at e1
              have hSk : ∀ W', G w8 W' → (W'.cell? ⟨g1, o1 + t * 3, none⟩ = some (.int .i64 x0) ∧ W'.cell? ⟨g1, o1 + t * 3 + 1, none⟩ = some (.int .i64 x1) ∧ W'.cell? ⟨g1, o1 + t * 3 + 2, none⟩ = some (.int .i64 x2) ∧ g1 < W'.heap.size) ∧ W'.cell? ⟨g2, o2 + t, none⟩ = some (.int .i64 x0) ∧ g2 < W'.heap.size := fun W' hW => ⟨⟨((bcellB hW).1 g1 _ hg1).trans (e1 0 (by omega)), ((bcellB hW).1 g1 _ hg1).trans (e1 1 (by omega)), ((bcellB hW).1 g1 _ hg1).trans (e1 2 (by omega)), Nat.lt_of_lt_of_le hg1 hW.size⟩, ((bcellB hW).1 g2 _ hg2).trans e2, Nat.lt_of_lt_of_le hg2 hW.size⟩
              have HSK := Lib.hid hSk
              have hd1 : decide (x1 < 0) = false := decide_eq_false (by omega)
              have hd2 : decide (x2 < 0) = false := decide_eq_false (by omega)
              have hw1 : IntKind.i64.wrap (sx + x1) = sx + x1 := IntWalk.i64_in _ (by omega)
              have hw2 : IntKind.i64.wrap (sy + x2) = sy + x2 := IntWalk.i64_in _ (by omega)
              clear e1 e2 hc1 hc2
              go_upto_region 16 with fail
              refine wp_region_Y (S := fun W' => (W'.cell? ⟨g1, o1 + t * 3, none⟩ = some (.int .i64 x0) ∧ W'.cell? ⟨g1, o1 + t * 3 + 1, none⟩ = some (.int .i64 x1) ∧ W'.cell? ⟨g1, o1 + t * 3 + 2, none⟩ = some (.int .i64 x2) ∧ g1 < W'.heap.size) ∧ W'.cell? ⟨g2, o2 + t, none⟩ = some (.int .i64 x0) ∧ g2 < W'.heap.size) 25 26 rfl (by kernel_rfl) (hSk _ (G.rf _).d) (fun hS => ?_)
              have ga := (G.rf w8).d
              change wpAnyY _ _ opsC16 _ _ 25 26 (blC16 0) _ _
              refine wpAnyY_takeC (v := ?_) [18, 10, 9, 4, 3, 2] rC16_0 rC16o_0 (fun _ _ _ h => h) (Or.inl ⟨by kernel_rfl, ?_⟩) hS ?_
              rotate_left
              · intro w' hSw; go_simp; with_reducible rfl
              try simp only [Act.put, List.getElem_toArray, List.getElem_cons_zero, List.getElem_cons_succ, List.setIfInBounds_toArray, List.set_cons_zero, List.set_cons_succ]
              refine wpAnyY_takeC (v := ?_) [18, 10, 9, 4, 3, 2] rC16_1 rC16o_1 (fun _ _ _ h => h) (Or.inl ⟨by kernel_rfl, ?_⟩) hS ?_
              rotate_left
              · intro w' hSw; go_simp; with_reducible rfl
              try simp only [Act.put, List.getElem_toArray, List.getElem_cons_zero, List.getElem_cons_succ, List.setIfInBounds_toArray, List.set_cons_zero, List.set_cons_succ]
              refine wpAnyY_takeC (v := ?_) [18, 10, 9, 4, 3] rC16_2 rC16o_2 (fun _ _ _ h => h) (Or.inl ⟨by kernel_rfl, ?_⟩) hS ?_
              rotate_left
              · intro w' hSw; go_simp; with_reducible rfl
              try simp only [Act.put, List.getElem_toArray, List.getElem_cons_zero, List.getElem_cons_succ, List.setIfInBounds_toArray, List.set_cons_zero, List.set_cons_succ]
              refine wpAnyY_takeC (v := ?_) [18, 10, 9, 4] rC16_3 rC16o_3 (fun _ _ _ h => h) (Or.inl ⟨by kernel_rfl, ?_⟩) hS ?_
              rotate_left
              · intro w' hSw; go_simp; with_reducible rfl
              try simp only [Act.put, List.getElem_toArray, List.getElem_cons_zero, List.getElem_cons_succ, List.setIfInBounds_toArray, List.set_cons_zero, List.set_cons_succ]
              refine wpAnyY_takeC (v := ?_) [18, 10, 9] rC16_4 rC16o_4 (fun _ _ _ h => h) (Or.inl ⟨by kernel_rfl, ?_⟩) hS ?_
              rotate_left
              · intro w' hSw; obtain ⟨⟨s0, s1, s2, s3⟩, s4, s5⟩ := hSw; go_simp; with_reducible rfl
              try simp only [Act.put, List.getElem_toArray, List.getElem_cons_zero, List.getElem_cons_succ, List.setIfInBounds_toArray, List.set_cons_zero, List.set_cons_succ]
              refine wpAnyY_takeC (v := ?_) [18, 10, 9, 8, 7] rC16_5 rC16o_5 (fun _ _ _ h => h) (Or.inl ⟨by kernel_rfl, ?_⟩) hS ?_
              rotate_left
              · intro w' hSw; go_simp; with_reducible rfl
              try simp only [Act.put, List.getElem_toArray, List.getElem_cons_zero, List.getElem_cons_succ, List.setIfInBounds_toArray, List.set_cons_zero, List.set_cons_succ]
              refine wpAnyY_takeC (v := ?_) [18, 10, 9, 8, 7] rC16_6 rC16o_6 (fun _ _ _ h => h) (Or.inl ⟨by kernel_rfl, ?_⟩) hS ?_
              rotate_left
              · intro w' hSw; go_simp; with_reducible rfl
              try simp only [Act.put, List.getElem_toArray, List.getElem_cons_zero, List.getElem_cons_succ, List.setIfInBounds_toArray, List.set_cons_zero, List.set_cons_succ]
              refine wpAnyY_takeC (v := ?_) [18, 10, 9, 8] rC16_7 rC16o_7 (fun _ _ _ h => h) (Or.inl ⟨by kernel_rfl, ?_⟩) hS ?_
              rotate_left
              · intro w' hSw; go_simp; with_reducible rfl
              try simp only [Act.put, List.getElem_toArray, List.getElem_cons_zero, List.getElem_cons_succ, List.setIfInBounds_toArray, List.set_cons_zero, List.set_cons_succ]
              refine wpAnyY_takeC (v := ?_) [18, 10, 9] rC16_8 rC16o_8 (fun _ _ _ h => h) (Or.inl ⟨by kernel_rfl, ?_⟩) hS ?_
              rotate_left
              · intro w' hSw; obtain ⟨⟨s0, s1, s2, s3⟩, s4, s5⟩ := hSw; go_simp; with_reducible rfl
              try simp only [Act.put, List.getElem_toArray, List.getElem_cons_zero, List.getElem_cons_succ, List.setIfInBounds_toArray, List.set_cons_zero, List.set_cons_succ]
              refine wpAnyY_takeC (v := ?_) [18, 10] rC16_9 rC16o_9 (fun _ _ _ h => h) (Or.inl ⟨by kernel_rfl, ?_⟩) hS ?_
              rotate_left
              · intro w' hSw; go_simp; with_reducible rfl
              try simp only [Act.put, List.getElem_toArray, List.getElem_cons_zero, List.getElem_cons_succ, List.setIfInBounds_toArray, List.set_cons_zero, List.set_cons_succ]
              refine wpAnyY_takeC (v := ?_) [18] rC16_10 rC16o_10 (fun _ _ _ h => h) (Or.inl ⟨by kernel_rfl, ?_⟩) hS ?_
              rotate_left
              · intro w' hSw; go_simp; with_reducible rfl
              try simp only [Act.put, List.getElem_toArray, List.getElem_cons_zero, List.getElem_cons_succ, List.setIfInBounds_toArray, List.set_cons_zero, List.set_cons_succ]
              refine wpAnyY_takeC (v := ?_) [18, 17, 16, 15, 14, 13] rC16_11 rC16o_11 (fun _ _ _ h => h) (Or.inl ⟨by kernel_rfl, ?_⟩) hS ?_
              rotate_left
              · intro w' hSw; go_simp; with_reducible rfl
              try simp only [Act.put, List.getElem_toArray, List.getElem_cons_zero, List.getElem_cons_succ, List.setIfInBounds_toArray, List.set_cons_zero, List.set_cons_succ]
              refine wpAnyY_takeC (v := ?_) [18, 17, 16, 15, 14, 13] rC16_12 rC16o_12 (fun _ _ _ h => h) (Or.inl ⟨by kernel_rfl, ?_⟩) hS ?_
              rotate_left
              · intro w' hSw; go_simp; with_reducible rfl
              try simp only [Act.put, List.getElem_toArray, List.getElem_cons_zero, List.getElem_cons_succ, List.setIfInBounds_toArray, List.set_cons_zero, List.set_cons_succ]
              refine wpAnyY_takeC (v := ?_) [18, 17, 16, 15, 14] rC16_13 rC16o_13 (fun _ _ _ h => h) (Or.inl ⟨by kernel_rfl, ?_⟩) hS ?_
              rotate_left
              · intro w' hSw; go_simp; with_reducible rfl
              try simp only [Act.put, List.getElem_toArray, List.getElem_cons_zero, List.getElem_cons_succ, List.setIfInBounds_toArray, List.set_cons_zero, List.set_cons_succ]
              refine wpAnyY_takeC (v := ?_) [18, 17, 16, 15] rC16_14 rC16o_14 (fun _ _ _ h => h) (Or.inl ⟨by kernel_rfl, ?_⟩) hS ?_
              rotate_left
              · intro w' hSw; go_simp; with_reducible rfl
              try simp only [Act.put, List.getElem_toArray, List.getElem_cons_zero, List.getElem_cons_succ, List.setIfInBounds_toArray, List.set_cons_zero, List.set_cons_succ]
              refine wpAnyY_takeC (v := ?_) [18, 17, 16] rC16_15 rC16o_15 (fun _ _ _ h => h) (Or.inl ⟨by kernel_rfl, ?_⟩) hS ?_
              rotate_left
              · intro w' hSw; obtain ⟨⟨s0, s1, s2, s3⟩, s4, s5⟩ := hSw; go_simp; with_reducible rfl
              try simp only [Act.put, List.getElem_toArray, List.getElem_cons_zero, List.getElem_cons_succ, List.setIfInBounds_toArray, List.set_cons_zero, List.set_cons_succ]
              refine wpAnyY_takeC (v := ?_) [18, 17] rC16_16 rC16o_16 (fun _ _ _ h => h) (Or.inl ⟨by kernel_rfl, ?_⟩) hS ?_
              rotate_left
              · intro w' hSw; go_simp; with_reducible rfl
              try simp only [Act.put, List.getElem_toArray, List.getElem_cons_zero, List.getElem_cons_succ, List.setIfInBounds_toArray, List.set_cons_zero, List.set_cons_succ]
              refine wpAnyY_takeC (v := ?_) [18] rC16_17 rC16o_17 (fun _ _ _ h => h) (Or.inl ⟨by kernel_rfl, ?_⟩) hS ?_
              rotate_left
              · intro w' hSw; go_simp; with_reducible rfl
              try simp only [Act.put, List.getElem_toArray, List.getElem_cons_zero, List.getElem_cons_succ, List.setIfInBounds_toArray, List.set_cons_zero, List.set_cons_succ]
              refine wpAnyY_takeC (v := ?_) [] rC16_18 rC16o_18 (fun _ _ _ h => h) (Or.inl ⟨by kernel_rfl, ?_⟩) hS ?_
              rotate_left
              · intro w' hSw; go_simp; with_reducible rfl
              try simp only [Act.put, List.getElem_toArray, List.getElem_cons_zero, List.getElem_cons_succ, List.setIfInBounds_toArray, List.set_cons_zero, List.set_cons_succ]
              refine wpAnyY_takeC (v := ?_) [24, 23, 22, 21] rC16_19 rC16o_19 (fun _ _ _ h => h) (Or.inl ⟨by kernel_rfl, ?_⟩) hS ?_
              rotate_left
              · intro w' hSw; go_simp; with_reducible rfl
              try simp only [Act.put, List.getElem_toArray, List.getElem_cons_zero, List.getElem_cons_succ, List.setIfInBounds_toArray, List.set_cons_zero, List.set_cons_succ]
              refine wpAnyY_takeC (v := ?_) [24, 23, 22, 21] rC16_20 rC16o_20 (fun _ _ _ h => h) (Or.inl ⟨by kernel_rfl, ?_⟩) hS ?_
              rotate_left
              · intro w' hSw; go_simp; with_reducible rfl
              try simp only [Act.put, List.getElem_toArray, List.getElem_cons_zero, List.getElem_cons_succ, List.setIfInBounds_toArray, List.set_cons_zero, List.set_cons_succ]
              refine wpAnyY_takeC (v := ?_) [24, 23, 22] rC16_21 rC16o_21 (fun _ _ _ h => h) (Or.inl ⟨by kernel_rfl, ?_⟩) hS ?_
              rotate_left
              · intro w' hSw; go_simp; with_reducible rfl
              try simp only [Act.put, List.getElem_toArray, List.getElem_cons_zero, List.getElem_cons_succ, List.setIfInBounds_toArray, List.set_cons_zero, List.set_cons_succ]
              refine wpAnyY_takeC (v := ?_) [24, 23] rC16_22 rC16o_22 (fun _ _ _ h => h) (Or.inl ⟨by kernel_rfl, ?_⟩) hS ?_
              rotate_left
              · intro w' hSw; go_simp; with_reducible rfl
              try simp only [Act.put, List.getElem_toArray, List.getElem_cons_zero, List.getElem_cons_succ, List.setIfInBounds_toArray, List.set_cons_zero, List.set_cons_succ]
              refine wpAnyY_takeC (v := ?_) [24] rC16_23 rC16o_23 (fun _ _ _ h => h) (Or.inl ⟨by kernel_rfl, ?_⟩) hS ?_
              rotate_left
              · intro w' hSw; obtain ⟨⟨s0, s1, s2, s3⟩, s4, s5⟩ := hSw; go_simp; with_reducible rfl
              try simp only [Act.put, List.getElem_toArray, List.getElem_cons_zero, List.getElem_cons_succ, List.setIfInBounds_toArray, List.set_cons_zero, List.set_cons_succ]
              refine wpAnyY_takeC (v := ?_) [] rC16_24 rC16o_24 (fun _ _ _ h => h) (Or.inl ⟨by kernel_rfl, ?_⟩) hS ?_
              rotate_left
              · intro w' hSw; go_simp; with_reducible rfl
              try simp only [Act.put, List.getElem_toArray, List.getElem_cons_zero, List.getElem_cons_succ, List.setIfInBounds_toArray, List.set_cons_zero, List.set_cons_succ]
              refine wpAnyY_oneW (i := 25) (by kernel_rfl) rC16o_25 (by kernel_rfl) (by kernel_rfl) (fun K25 hK25 => ?_)
              go_simp
              refine hK25.out _ _ ?_
              clear hK25
              try simp only [Act.put, List.getElem_toArray, List.getElem_cons_zero, List.getElem_cons_succ, List.setIfInBounds_toArray, List.set_cons_zero, List.set_cons_succ]
              refine wpAnyY_done (by kernel_rfl) ?_ _
              clear hS
              clear hSk
              obtain ⟨w7, hw7⟩ : ∃ w7, w7 = w8.drew := ⟨_, rfl⟩
              rw [← hw7] at ga ⊢
              clear hw7
              have gb := ga
              clear ga
              have hSk : ∀ W', G w7 W' → (W'.cell? ⟨g1, o1 + t * 3, none⟩ = some (.int .i64 x0) ∧ W'.cell? ⟨g1, o1 + t * 3 + 1, none⟩ = some (.int .i64 x1) ∧ W'.cell? ⟨g1, o1 + t * 3 + 2, none⟩ = some (.int .i64 x2) ∧ g1 < W'.heap.size) ∧ W'.cell? ⟨g2, o2 + t, none⟩ = some (.int .i64 x0) ∧ g2 < W'.heap.size := fun W' hW => HSK.out W' (gb.t hW)
              go_upto_region 18 with fail
              refine wp_region_Y (S := fun W' => (W'.cell? ⟨g1, o1 + t * 3, none⟩ = some (.int .i64 x0) ∧ W'.cell? ⟨g1, o1 + t * 3 + 1, none⟩ = some (.int .i64 x1) ∧ W'.cell? ⟨g1, o1 + t * 3 + 2, none⟩ = some (.int .i64 x2) ∧ g1 < W'.heap.size) ∧ W'.cell? ⟨g2, o2 + t, none⟩ = some (.int .i64 x0) ∧ g2 < W'.heap.size) 15 16 rfl (by kernel_rfl) (hSk _ (G.rf _).d) (fun hS => ?_)
              have ga := (G.rf w7).d
              change wpAnyY _ _ opsC18 _ _ 15 16 (blC18 0) _ _
              refine wpAnyY_takeC (v := ?_) [] rC18_0 rC18o_0 (fun _ _ _ h => h) (Or.inl ⟨by kernel_rfl, ?_⟩) hS ?_
              rotate_left
              · intro w' hSw; go_simp; with_reducible rfl
              try simp only [Act.put, List.getElem_toArray, List.getElem_cons_zero, List.getElem_cons_succ, List.setIfInBounds_toArray, List.set_cons_zero, List.set_cons_succ]
              refine wpAnyY_takeC (v := ?_) [] rC18_1 rC18o_1 (fun _ _ _ h => h) (Or.inl ⟨by kernel_rfl, ?_⟩) hS ?_
              rotate_left
              · intro w' hSw; go_simp; with_reducible rfl
              try simp only [Act.put, List.getElem_toArray, List.getElem_cons_zero, List.getElem_cons_succ, List.setIfInBounds_toArray, List.set_cons_zero, List.set_cons_succ]
              refine wpAnyY_takeC (v := ?_) [] rC18_2 rC18o_2 (fun _ _ _ h => h) (Or.inl ⟨by kernel_rfl, ?_⟩) hS ?_
              rotate_left
              · intro w' hSw; go_simp; with_reducible rfl
              try simp only [Act.put, List.getElem_toArray, List.getElem_cons_zero, List.getElem_cons_succ, List.setIfInBounds_toArray, List.set_cons_zero, List.set_cons_succ]
              refine wpAnyY_takeC (v := ?_) [] rC18_3 rC18o_3 (fun _ _ _ h => h) (Or.inl ⟨by kernel_rfl, ?_⟩) hS ?_
              rotate_left
              · intro w' hSw; go_simp; with_reducible rfl
              try simp only [Act.put, List.getElem_toArray, List.getElem_cons_zero, List.getElem_cons_succ, List.setIfInBounds_toArray, List.set_cons_zero, List.set_cons_succ]
              refine wpAnyY_takeC (v := ?_) [] rC18_4 rC18o_4 (fun _ _ _ h => h) (Or.inl ⟨by kernel_rfl, ?_⟩) hS ?_
              rotate_left
              · intro w' hSw; go_simp; with_reducible rfl
              try simp only [Act.put, List.getElem_toArray, List.getElem_cons_zero, List.getElem_cons_succ, List.setIfInBounds_toArray, List.set_cons_zero, List.set_cons_succ]
              refine wpAnyY_takeC (v := ?_) [] rC18_5 rC18o_5 (fun _ _ _ h => h) (Or.inl ⟨by kernel_rfl, ?_⟩) hS ?_
              rotate_left
              · intro w' hSw; obtain ⟨⟨s0, s1, s2, s3⟩, s4, s5⟩ := hSw; go_simp; with_reducible rfl
              try simp only [Act.put, List.getElem_toArray, List.getElem_cons_zero, List.getElem_cons_succ, List.setIfInBounds_toArray, List.set_cons_zero, List.set_cons_succ]
              refine wpAnyY_takeC (v := ?_) [] rC18_6 rC18o_6 (fun _ _ _ h => h) (Or.inl ⟨by kernel_rfl, ?_⟩) hS ?_
              rotate_left
              · intro w' hSw; go_simp; with_reducible rfl
              try simp only [Act.put, List.getElem_toArray, List.getElem_cons_zero, List.getElem_cons_succ, List.setIfInBounds_toArray, List.set_cons_zero, List.set_cons_succ]
              refine wpAnyY_takeC (v := ?_) [] rC18_7 rC18o_7 (fun _ _ _ h => h) (Or.inl ⟨by kernel_rfl, ?_⟩) hS ?_
              rotate_left
              · intro w' hSw; go_simp; with_reducible rfl
              try simp only [Act.put, List.getElem_toArray, List.getElem_cons_zero, List.getElem_cons_succ, List.setIfInBounds_toArray, List.set_cons_zero, List.set_cons_succ]
              refine wpAnyY_takeC (v := ?_) [] rC18_8 rC18o_8 (fun _ _ _ h => h) (Or.inl ⟨by kernel_rfl, ?_⟩) hS ?_
              rotate_left
              · intro w' hSw; go_simp; with_reducible rfl
              try simp only [Act.put, List.getElem_toArray, List.getElem_cons_zero, List.getElem_cons_succ, List.setIfInBounds_toArray, List.set_cons_zero, List.set_cons_succ]
              refine wpAnyY_takeC (v := ?_) [] rC18_9 rC18o_9 (fun _ _ _ h => h) (Or.inl ⟨by kernel_rfl, ?_⟩) hS ?_
              rotate_left
              · intro w' hSw; go_simp; with_reducible rfl
              try simp only [Act.put, List.getElem_toArray, List.getElem_cons_zero, List.getElem_cons_succ, List.setIfInBounds_toArray, List.set_cons_zero, List.set_cons_succ]
              refine wpAnyY_takeC (v := ?_) [] rC18_10 rC18o_10 (fun _ _ _ h => h) (Or.inl ⟨by kernel_rfl, ?_⟩) hS ?_
              rotate_left
              · intro w' hSw; go_simp; with_reducible rfl
              try simp only [Act.put, List.getElem_toArray, List.getElem_cons_zero, List.getElem_cons_succ, List.setIfInBounds_toArray, List.set_cons_zero, List.set_cons_succ]
              refine wpAnyY_takeC (v := ?_) [] rC18_11 rC18o_11 (fun _ _ _ h => h) (Or.inl ⟨by kernel_rfl, ?_⟩) hS ?_
              rotate_left
              · intro w' hSw; go_simp; with_reducible rfl
              try simp only [Act.put, List.getElem_toArray, List.getElem_cons_zero, List.getElem_cons_succ, List.setIfInBounds_toArray, List.set_cons_zero, List.set_cons_succ]
              refine wpAnyY_takeC (v := ?_) [] rC18_12 rC18o_12 (fun _ _ _ h => h) (Or.inl ⟨by kernel_rfl, ?_⟩) hS ?_
              rotate_left
              · intro w' hSw; obtain ⟨⟨s0, s1, s2, s3⟩, s4, s5⟩ := hSw; go_simp; with_reducible rfl
              try simp only [Act.put, List.getElem_toArray, List.getElem_cons_zero, List.getElem_cons_succ, List.setIfInBounds_toArray, List.set_cons_zero, List.set_cons_succ]
              refine wpAnyY_takeC (v := ?_) [] rC18_13 rC18o_13 (fun _ _ _ h => h) (Or.inl ⟨by kernel_rfl, ?_⟩) hS ?_
              rotate_left
              · intro w' hSw; go_simp; with_reducible rfl
              try simp only [Act.put, List.getElem_toArray, List.getElem_cons_zero, List.getElem_cons_succ, List.setIfInBounds_toArray, List.set_cons_zero, List.set_cons_succ]
              refine wpAnyY_takeC (v := ?_) [] rC18_14 rC18o_14 (fun _ _ _ h => h) (Or.inl ⟨by kernel_rfl, ?_⟩) hS ?_
              rotate_left
              · intro w' hSw; go_simp; with_reducible rfl
              try simp only [Act.put, List.getElem_toArray, List.getElem_cons_zero, List.getElem_cons_succ, List.setIfInBounds_toArray, List.set_cons_zero, List.set_cons_succ]
              refine wpAnyY_oneW (i := 15) (by kernel_rfl) rC18o_15 (by kernel_rfl) (by kernel_rfl) (fun K15 hK15 => ?_)
              go_simp
              refine hK15.out _ _ ?_
              clear hK15
              try simp only [Act.put, List.getElem_toArray, List.getElem_cons_zero, List.getElem_cons_succ, List.setIfInBounds_toArray, List.set_cons_zero, List.set_cons_succ]
              refine wpAnyY_done (by kernel_rfl) ?_ _
              clear hS
              clear hSk
              have gzz := (hG7.t gb).t ga
              go_wp2_with fail
              go_roundw
              case rel => exact ⟨t + 1, sx + x1, sy + x2, by omega, rfl, rfl, by go_num, HS1.out.symm, HS2.out.symm, by omega, gzz⟩
              case measure => simp [intOf] <;> omega
            · have htl : t = AL.length := by omega
              have hti : ¬ (t : Int) < AL.length := by omega
              have e1 : sx = (AL.map Pz.won).sum := by rw [HSX.out, htl, sumT_all]
              have e2 : sy = R := by rw [HSY.out, htl, sumT_all, HRR.out]
              have hT1 : T = C + sx + R := by rw [e1, HRR.out]; exact HSU.out
              have hLL : L = T - C := HLL.out
              have HTN := Lib.hid HTS.out
              clear htl e1
              subst e2
              have hwm : IntKind.i64.wrap (y * (AL.length : Int)) = T := by rw [← HTN.out]; exact IntWalk.i64_in _ (by omega)
              have hw1 : IntKind.i64.wrap (C + sx) = C + sx := IntWalk.i64_in _ (by omega)
              have hw2 : IntKind.i64.wrap (C + sx + sy) = T := by rw [hT1]; exact IntWalk.i64_in _ (by omega)
              have hw3 : IntKind.i64.wrap (T - C) = L := by rw [hLL]; exact IntWalk.i64_in _ (by omega)
              have hw4 : IntKind.i64.wrap (sx + sy) = L := by rw [hLL, hT1]; rw [show C + sx + sy - C = sx + sy by omega]; exact IntWalk.i64_in _ (by omega)
              have hd1 : decide (C < 0) = false := decide_eq_false (by omega)
              have hw5 : IntKind.i64.wrap (tot + T) = tot + T := IntWalk.i64_in _ (by omega)
              have hw6 : IntKind.i64.wrap (cut + C) = cut + C := IntWalk.i64_in _ (by omega)
              have HTO2 : Hid (tot + T = sumK TF (j + 1)) := by rw [HTO.out, HT.out]; rfl
              have HCU2 : Hid (cut + C = sumK CF (j + 1)) := by rw [HCU.out, HC.out]; rfl
              clear hT1 hLL
              have hSk : ∀ W', G w8 W' → (W'.cell? ⟨KP, 0, none⟩ = some (.int .i64 T) ∧ W'.cell? ⟨KP, 1, none⟩ = some (.int .i64 C) ∧ W'.cell? ⟨KP, 2, none⟩ = some (.int .i64 L) ∧ W'.cell? ⟨KP, 3, none⟩ = some (.int .i64 sy) ∧ KP < W'.heap.size) ∧ (W'.cell? ⟨w.heap.size, 1, none⟩ = some (.slice (some ⟨gp, op, none⟩) r.pools.length r.pc) ∧ w.heap.size < W'.heap.size) ∧ W'.cell? ⟨gp, op + j * 6, none⟩ = some (.int .i64 y) ∧ gp < W'.heap.size := fun W' hW => by
                have a1 := HBP.out.keep (hG7.t hW)
                have a2 := HB6.out.keep (hG7.t hW)
                have a3 := (g6.t hG7).t hW
                refine ⟨⟨a1.cell 0, a1.cell 1, a1.cell 2, a1.cell 3, a1.lt⟩, ⟨?_, a2.lt⟩, ((bcellB a3).1 gp _ hgp).trans HQ0.out, Nat.lt_of_lt_of_le hgp a3.size⟩
                have := a2.cell 1
                rw [HPE.out] at this
                exact this
              have HSK := Lib.hid hSk
              go_upto_region 19 with fail
              refine wp_region_Y (S := fun W' => (W'.cell? ⟨KP, 0, none⟩ = some (.int .i64 T) ∧ W'.cell? ⟨KP, 1, none⟩ = some (.int .i64 C) ∧ W'.cell? ⟨KP, 2, none⟩ = some (.int .i64 L) ∧ W'.cell? ⟨KP, 3, none⟩ = some (.int .i64 sy) ∧ KP < W'.heap.size) ∧ (W'.cell? ⟨w.heap.size, 1, none⟩ = some (.slice (some ⟨gp, op, none⟩) r.pools.length r.pc) ∧ w.heap.size < W'.heap.size) ∧ W'.cell? ⟨gp, op + j * 6, none⟩ = some (.int .i64 y) ∧ gp < W'.heap.size) 52 53 rfl (by kernel_rfl) (hSk _ (G.rf _).d) (fun hS => ?_)
              have ga := (G.rf w8).d
              change wpAnyY _ _ opsC19 _ _ 52 53 (blC19 0) _ _
              refine wpAnyY_takeC (v := ?_) [44, 38, 28, 17, 12, 11, 1] rC19_0 rC19o_0 (fun _ _ _ h => h) (Or.inl ⟨by kernel_rfl, ?_⟩) hS ?_
              rotate_left
              · intro w' hSw; go_simp; with_reducible rfl
              try simp only [Act.put, List.getElem_toArray, List.getElem_cons_zero, List.getElem_cons_succ, List.setIfInBounds_toArray, List.set_cons_zero, List.set_cons_succ]
              refine wpAnyY_takeC (v := ?_) [44, 38, 28, 17, 12, 11] rC19_1 rC19o_1 (fun _ _ _ h => h) (Or.inl ⟨by kernel_rfl, ?_⟩) hS ?_
              rotate_left
              · intro w' hSw; obtain ⟨⟨s0, s1, s2, s3, s4⟩, ⟨s5, s6⟩, s7, s8⟩ := hSw; go_simp; with_reducible rfl
              try simp only [Act.put, List.getElem_toArray, List.getElem_cons_zero, List.getElem_cons_succ, List.setIfInBounds_toArray, List.set_cons_zero, List.set_cons_succ]
              refine wpAnyY_takeC (v := ?_) [44, 38, 28, 17, 12, 11, 10, 7, 6, 5, 3] rC19_2 rC19o_2 (fun _ _ _ h => h) (Or.inl ⟨by kernel_rfl, ?_⟩) hS ?_
              rotate_left
              · intro w' hSw; go_simp; with_reducible rfl
              try simp only [Act.put, List.getElem_toArray, List.getElem_cons_zero, List.getElem_cons_succ, List.setIfInBounds_toArray, List.set_cons_zero, List.set_cons_succ]
              refine wpAnyY_takeC (v := ?_) [44, 38, 28, 17, 12, 11, 10, 7, 6, 5] rC19_3 rC19o_3 (fun _ _ _ h => h) (Or.inl ⟨by kernel_rfl, ?_⟩) hS ?_
              rotate_left
              · intro w' hSw; obtain ⟨⟨s0, s1, s2, s3, s4⟩, ⟨s5, s6⟩, s7, s8⟩ := hSw; go_simp; with_reducible rfl
              try simp only [Act.put, List.getElem_toArray, List.getElem_cons_zero, List.getElem_cons_succ, List.setIfInBounds_toArray, List.set_cons_zero, List.set_cons_succ]
              refine wpAnyY_takeC (v := ?_) [44, 38, 28, 17, 12, 11, 10, 7, 6, 5] rC19_4 rC19o_4 (fun _ _ _ h => h) (Or.inl ⟨by kernel_rfl, ?_⟩) hS ?_
              rotate_left
              · intro w' hSw; go_simp; with_reducible rfl
              try simp only [Act.put, List.getElem_toArray, List.getElem_cons_zero, List.getElem_cons_succ, List.setIfInBounds_toArray, List.set_cons_zero, List.set_cons_succ]
              refine wpAnyY_takeC (v := ?_) [44, 38, 28, 17, 12, 11, 10, 7, 6] rC19_5 rC19o_5 (fun _ _ _ h => h) (Or.inl ⟨by kernel_rfl, ?_⟩) hS ?_
              rotate_left
              · intro w' hSw; go_simp; with_reducible rfl
              try simp only [Act.put, List.getElem_toArray, List.getElem_cons_zero, List.getElem_cons_succ, List.setIfInBounds_toArray, List.set_cons_zero, List.set_cons_succ]
              refine wpAnyY_takeC (v := ?_) [44, 38, 28, 17, 12, 11, 10, 7] rC19_6 rC19o_6 (fun _ _ _ h => h) (Or.inl ⟨by kernel_rfl, ?_⟩) hS ?_
              rotate_left
              · intro w' hSw; go_simp; with_reducible rfl
              try simp only [Act.put, List.getElem_toArray, List.getElem_cons_zero, List.getElem_cons_succ, List.setIfInBounds_toArray, List.set_cons_zero, List.set_cons_succ]
              refine wpAnyY_takeC (v := ?_) [44, 38, 28, 17, 12, 11, 10] rC19_7 rC19o_7 (fun _ _ _ h => h) (Or.inl ⟨by kernel_rfl, ?_⟩) hS ?_
              rotate_left
              · intro w' hSw; obtain ⟨⟨s0, s1, s2, s3, s4⟩, ⟨s5, s6⟩, s7, s8⟩ := hSw; go_simp; with_reducible rfl
              try simp only [Act.put, List.getElem_toArray, List.getElem_cons_zero, List.getElem_cons_succ, List.setIfInBounds_toArray, List.set_cons_zero, List.set_cons_succ]
              refine wpAnyY_takeC (v := ?_) [44, 38, 28, 17, 12, 11, 10, 9] rC19_8 rC19o_8 (fun _ _ _ h => h) (Or.inl ⟨by kernel_rfl, ?_⟩) hS ?_
              rotate_left
              · intro w' hSw; go_simp; with_reducible rfl
              try simp only [Act.put, List.getElem_toArray, List.getElem_cons_zero, List.getElem_cons_succ, List.setIfInBounds_toArray, List.set_cons_zero, List.set_cons_succ]
              refine wpAnyY_takeC (v := ?_) [44, 38, 28, 17, 12, 11, 10] rC19_9 rC19o_9 (fun _ _ _ h => h) (Or.inl ⟨by kernel_rfl, ?_⟩) hS ?_
              rotate_left
              · intro w' hSw; go_simp; with_reducible rfl
              try simp only [Act.put, List.getElem_toArray, List.getElem_cons_zero, List.getElem_cons_succ, List.setIfInBounds_toArray, List.set_cons_zero, List.set_cons_succ]
              refine wpAnyY_takeC (v := ?_) [44, 38, 28, 17, 12, 11] rC19_10 rC19o_10 (fun _ _ _ h => h) (Or.inl ⟨by kernel_rfl, ?_⟩) hS ?_
              rotate_left
              · intro w' hSw; go_simp; with_reducible rfl
              try simp only [Act.put, List.getElem_toArray, List.getElem_cons_zero, List.getElem_cons_succ, List.setIfInBounds_toArray, List.set_cons_zero, List.set_cons_succ]
              refine wpAnyY_takeC (v := ?_) [44, 38, 28, 17, 12] rC19_11 rC19o_11 (fun _ _ _ h => h) (Or.inl ⟨by kernel_rfl, ?_⟩) hS ?_
              rotate_left
              · intro w' hSw; go_simp; with_reducible rfl
              try simp only [Act.put, List.getElem_toArray, List.getElem_cons_zero, List.getElem_cons_succ, List.setIfInBounds_toArray, List.set_cons_zero, List.set_cons_succ]
              refine wpAnyY_takeC (v := ?_) [44, 38, 28, 17] rC19_12 rC19o_12 (fun _ _ _ h => h) (Or.inl ⟨by kernel_rfl, ?_⟩) hS ?_
              rotate_left
              · intro w' hSw; go_simp; with_reducible rfl
              try simp only [Act.put, List.getElem_toArray, List.getElem_cons_zero, List.getElem_cons_succ, List.setIfInBounds_toArray, List.set_cons_zero, List.set_cons_succ]
              refine wpAnyY_takeC (v := ?_) [44, 38, 28, 17, 16, 15, 14] rC19_13 rC19o_13 (fun _ _ _ h => h) (Or.inl ⟨by kernel_rfl, ?_⟩) hS ?_
              rotate_left
              · intro w' hSw; go_simp; with_reducible rfl
              try simp only [Act.put, List.getElem_toArray, List.getElem_cons_zero, List.getElem_cons_succ, List.setIfInBounds_toArray, List.set_cons_zero, List.set_cons_succ]
              refine wpAnyY_takeC (v := ?_) [44, 38, 28, 17, 16, 15] rC19_14 rC19o_14 (fun _ _ _ h => h) (Or.inl ⟨by kernel_rfl, ?_⟩) hS ?_
              rotate_left
              · intro w' hSw; obtain ⟨⟨s0, s1, s2, s3, s4⟩, ⟨s5, s6⟩, s7, s8⟩ := hSw; go_simp; with_reducible rfl
              try simp only [Act.put, List.getElem_toArray, List.getElem_cons_zero, List.getElem_cons_succ, List.setIfInBounds_toArray, List.set_cons_zero, List.set_cons_succ]
              refine wpAnyY_takeC (v := ?_) [44, 38, 28, 17, 16] rC19_15 rC19o_15 (fun _ _ _ h => h) (Or.inl ⟨by kernel_rfl, ?_⟩) hS ?_
              rotate_left
              · intro w' hSw; go_simp; with_reducible rfl
              try simp only [Act.put, List.getElem_toArray, List.getElem_cons_zero, List.getElem_cons_succ, List.setIfInBounds_toArray, List.set_cons_zero, List.set_cons_succ]
              refine wpAnyY_takeC (v := ?_) [44, 38, 28, 17] rC19_16 rC19o_16 (fun _ _ _ h => h) (Or.inl ⟨by kernel_rfl, ?_⟩) hS ?_
              rotate_left
              · intro w' hSw; go_simp; with_reducible rfl
              try simp only [Act.put, List.getElem_toArray, List.getElem_cons_zero, List.getElem_cons_succ, List.setIfInBounds_toArray, List.set_cons_zero, List.set_cons_succ]
              refine wpAnyY_takeC (v := ?_) [44, 38, 28] rC19_17 rC19o_17 (fun _ _ _ h => h) (Or.inl ⟨by kernel_rfl, ?_⟩) hS ?_
              rotate_left
              · intro w' hSw; go_simp; with_reducible rfl
              try simp only [Act.put, List.getElem_toArray, List.getElem_cons_zero, List.getElem_cons_succ, List.setIfInBounds_toArray, List.set_cons_zero, List.set_cons_succ]
              refine wpAnyY_takeC (v := ?_) [44, 38, 28, 27, 26, 19] rC19_18 rC19o_18 (fun _ _ _ h => h) (Or.inl ⟨by kernel_rfl, ?_⟩) hS ?_
              rotate_left
              · intro w' hSw; go_simp; with_reducible rfl
              try simp only [Act.put, List.getElem_toArray, List.getElem_cons_zero, List.getElem_cons_succ, List.setIfInBounds_toArray, List.set_cons_zero, List.set_cons_succ]
              refine wpAnyY_takeC (v := ?_) [44, 38, 28, 27, 26] rC19_19 rC19o_19 (fun _ _ _ h => h) (Or.inl ⟨by kernel_rfl, ?_⟩) hS ?_
              rotate_left
              · intro w' hSw; obtain ⟨⟨s0, s1, s2, s3, s4⟩, ⟨s5, s6⟩, s7, s8⟩ := hSw; go_simp; with_reducible rfl
              try simp only [Act.put, List.getElem_toArray, List.getElem_cons_zero, List.getElem_cons_succ, List.setIfInBounds_toArray, List.set_cons_zero, List.set_cons_succ]
              refine wpAnyY_takeC (v := ?_) [44, 38, 28, 27, 26, 25, 23, 21] rC19_20 rC19o_20 (fun _ _ _ h => h) (Or.inl ⟨by kernel_rfl, ?_⟩) hS ?_
              rotate_left
              · intro w' hSw; go_simp; with_reducible rfl
              try simp only [Act.put, List.getElem_toArray, List.getElem_cons_zero, List.getElem_cons_succ, List.setIfInBounds_toArray, List.set_cons_zero, List.set_cons_succ]
              refine wpAnyY_takeC (v := ?_) [44, 38, 28, 27, 26, 25, 23] rC19_21 rC19o_21 (fun _ _ _ h => h) (Or.inl ⟨by kernel_rfl, ?_⟩) hS ?_
              rotate_left
              · intro w' hSw; obtain ⟨⟨s0, s1, s2, s3, s4⟩, ⟨s5, s6⟩, s7, s8⟩ := hSw; go_simp; with_reducible rfl
              try simp only [Act.put, List.getElem_toArray, List.getElem_cons_zero, List.getElem_cons_succ, List.setIfInBounds_toArray, List.set_cons_zero, List.set_cons_succ]
              refine wpAnyY_takeC (v := ?_) [44, 38, 28, 27, 26, 25, 23] rC19_22 rC19o_22 (fun _ _ _ h => h) (Or.inl ⟨by kernel_rfl, ?_⟩) hS ?_
              rotate_left
              · intro w' hSw; go_simp; with_reducible rfl
              try simp only [Act.put, List.getElem_toArray, List.getElem_cons_zero, List.getElem_cons_succ, List.setIfInBounds_toArray, List.set_cons_zero, List.set_cons_succ]
              refine wpAnyY_takeC (v := ?_) [44, 38, 28, 27, 26, 25] rC19_23 rC19o_23 (fun _ _ _ h => h) (Or.inl ⟨by kernel_rfl, ?_⟩) hS ?_
              rotate_left
              · intro w' hSw; go_simp; with_reducible rfl
              try simp only [Act.put, List.getElem_toArray, List.getElem_cons_zero, List.getElem_cons_succ, List.setIfInBounds_toArray, List.set_cons_zero, List.set_cons_succ]
              refine wpAnyY_takeC (v := ?_) [44, 38, 28, 27, 26, 25] rC19_24 rC19o_24 (fun _ _ _ h => h) (Or.inl ⟨by kernel_rfl, ?_⟩) hS ?_
              rotate_left
              · intro w' hSw; go_simp; with_reducible rfl
              try simp only [Act.put, List.getElem_toArray, List.getElem_cons_zero, List.getElem_cons_succ, List.setIfInBounds_toArray, List.set_cons_zero, List.set_cons_succ]
              refine wpAnyY_takeC (v := ?_) [44, 38, 28, 27, 26] rC19_25 rC19o_25 (fun _ _ _ h => h) (Or.inl ⟨by kernel_rfl, ?_⟩) hS ?_
              rotate_left
              · intro w' hSw; go_simp; with_reducible rfl
              try simp only [Act.put, List.getElem_toArray, List.getElem_cons_zero, List.getElem_cons_succ, List.setIfInBounds_toArray, List.set_cons_zero, List.set_cons_succ]
              refine wpAnyY_takeC (v := ?_) [44, 38, 28, 27] rC19_26 rC19o_26 (fun _ _ _ h => h) (Or.inl ⟨by kernel_rfl, ?_⟩) hS ?_
              rotate_left
              · intro w' hSw; go_simp; with_reducible rfl
              try simp only [Act.put, List.getElem_toArray, List.getElem_cons_zero, List.getElem_cons_succ, List.setIfInBounds_toArray, List.set_cons_zero, List.set_cons_succ]
              refine wpAnyY_takeC (v := ?_) [44, 38, 28] rC19_27 rC19o_27 (fun _ _ _ h => h) (Or.inl ⟨by kernel_rfl, ?_⟩) hS ?_
              rotate_left
              · intro w' hSw; go_simp; with_reducible rfl
              try simp only [Act.put, List.getElem_toArray, List.getElem_cons_zero, List.getElem_cons_succ, List.setIfInBounds_toArray, List.set_cons_zero, List.set_cons_succ]
              refine wpAnyY_takeC (v := ?_) [44, 38] rC19_28 rC19o_28 (fun _ _ _ h => h) (Or.inl ⟨by kernel_rfl, ?_⟩) hS ?_
              rotate_left
              · intro w' hSw; go_simp; with_reducible rfl
              try simp only [Act.put, List.getElem_toArray, List.getElem_cons_zero, List.getElem_cons_succ, List.setIfInBounds_toArray, List.set_cons_zero, List.set_cons_succ]
              refine wpAnyY_takeC (v := ?_) [44, 38, 37, 36, 30] rC19_29 rC19o_29 (fun _ _ _ h => h) (Or.inl ⟨by kernel_rfl, ?_⟩) hS ?_
              rotate_left
              · intro w' hSw; go_simp; with_reducible rfl
              try simp only [Act.put, List.getElem_toArray, List.getElem_cons_zero, List.getElem_cons_succ, List.setIfInBounds_toArray, List.set_cons_zero, List.set_cons_succ]
              refine wpAnyY_takeC (v := ?_) [44, 38, 37, 36] rC19_30 rC19o_30 (fun _ _ _ h => h) (Or.inl ⟨by kernel_rfl, ?_⟩) hS ?_
              rotate_left
              · intro w' hSw; obtain ⟨⟨s0, s1, s2, s3, s4⟩, ⟨s5, s6⟩, s7, s8⟩ := hSw; go_simp; with_reducible rfl
              try simp only [Act.put, List.getElem_toArray, List.getElem_cons_zero, List.getElem_cons_succ, List.setIfInBounds_toArray, List.set_cons_zero, List.set_cons_succ]
              refine wpAnyY_takeC (v := ?_) [44, 38, 37, 36, 35, 32] rC19_31 rC19o_31 (fun _ _ _ h => h) (Or.inl ⟨by kernel_rfl, ?_⟩) hS ?_
              rotate_left
              · intro w' hSw; go_simp; with_reducible rfl
              try simp only [Act.put, List.getElem_toArray, List.getElem_cons_zero, List.getElem_cons_succ, List.setIfInBounds_toArray, List.set_cons_zero, List.set_cons_succ]
              refine wpAnyY_takeC (v := ?_) [44, 38, 37, 36, 35] rC19_32 rC19o_32 (fun _ _ _ h => h) (Or.inl ⟨by kernel_rfl, ?_⟩) hS ?_
              rotate_left
              · intro w' hSw; obtain ⟨⟨s0, s1, s2, s3, s4⟩, ⟨s5, s6⟩, s7, s8⟩ := hSw; go_simp; with_reducible rfl
              try simp only [Act.put, List.getElem_toArray, List.getElem_cons_zero, List.getElem_cons_succ, List.setIfInBounds_toArray, List.set_cons_zero, List.set_cons_succ]
              refine wpAnyY_takeC (v := ?_) [44, 38, 37, 36, 35, 34] rC19_33 rC19o_33 (fun _ _ _ h => h) (Or.inl ⟨by kernel_rfl, ?_⟩) hS ?_
              rotate_left
              · intro w' hSw; go_simp; with_reducible rfl
              try simp only [Act.put, List.getElem_toArray, List.getElem_cons_zero, List.getElem_cons_succ, List.setIfInBounds_toArray, List.set_cons_zero, List.set_cons_succ]
              refine wpAnyY_takeC (v := ?_) [44, 38, 37, 36, 35] rC19_34 rC19o_34 (fun _ _ _ h => h) (Or.inl ⟨by kernel_rfl, ?_⟩) hS ?_
              rotate_left
              · intro w' hSw; obtain ⟨⟨s0, s1, s2, s3, s4⟩, ⟨s5, s6⟩, s7, s8⟩ := hSw; go_simp; with_reducible rfl
              try simp only [Act.put, List.getElem_toArray, List.getElem_cons_zero, List.getElem_cons_succ, List.setIfInBounds_toArray, List.set_cons_zero, List.set_cons_succ]
              refine wpAnyY_takeC (v := ?_) [44, 38, 37, 36] rC19_35 rC19o_35 (fun _ _ _ h => h) (Or.inl ⟨by kernel_rfl, ?_⟩) hS ?_
              rotate_left
              · intro w' hSw; go_simp; with_reducible rfl
              try simp only [Act.put, List.getElem_toArray, List.getElem_cons_zero, List.getElem_cons_succ, List.setIfInBounds_toArray, List.set_cons_zero, List.set_cons_succ]
              refine wpAnyY_takeC (v := ?_) [44, 38, 37] rC19_36 rC19o_36 (fun _ _ _ h => h) (Or.inl ⟨by kernel_rfl, ?_⟩) hS ?_
              rotate_left
              · intro w' hSw; go_simp; with_reducible rfl
              try simp only [Act.put, List.getElem_toArray, List.getElem_cons_zero, List.getElem_cons_succ, List.setIfInBounds_toArray, List.set_cons_zero, List.set_cons_succ]
              refine wpAnyY_takeC (v := ?_) [44, 38] rC19_37 rC19o_37 (fun _ _ _ h => h) (Or.inl ⟨by kernel_rfl, ?_⟩) hS ?_
              rotate_left
              · intro w' hSw; go_simp; with_reducible rfl
              try simp only [Act.put, List.getElem_toArray, List.getElem_cons_zero, List.getElem_cons_succ, List.setIfInBounds_toArray, List.set_cons_zero, List.set_cons_succ]
              refine wpAnyY_takeC (v := ?_) [44] rC19_38 rC19o_38 (fun _ _ _ h => h) (Or.inl ⟨by kernel_rfl, ?_⟩) hS ?_
              rotate_left
              · intro w' hSw; go_simp; with_reducible rfl
              try simp only [Act.put, List.getElem_toArray, List.getElem_cons_zero, List.getElem_cons_succ, List.setIfInBounds_toArray, List.set_cons_zero, List.set_cons_succ]
              refine wpAnyY_takeC (v := ?_) [44, 43, 42, 40] rC19_39 rC19o_39 (fun _ _ _ h => h) (Or.inl ⟨by kernel_rfl, ?_⟩) hS ?_
              rotate_left
              · intro w' hSw; go_simp; with_reducible rfl
              try simp only [Act.put, List.getElem_toArray, List.getElem_cons_zero, List.getElem_cons_succ, List.setIfInBounds_toArray, List.set_cons_zero, List.set_cons_succ]
              refine wpAnyY_takeC (v := ?_) [44, 43, 42] rC19_40 rC19o_40 (fun _ _ _ h => h) (Or.inl ⟨by kernel_rfl, ?_⟩) hS ?_
              rotate_left
              · intro w' hSw; obtain ⟨⟨s0, s1, s2, s3, s4⟩, ⟨s5, s6⟩, s7, s8⟩ := hSw; go_simp; with_reducible rfl
              try simp only [Act.put, List.getElem_toArray, List.getElem_cons_zero, List.getElem_cons_succ, List.setIfInBounds_toArray, List.set_cons_zero, List.set_cons_succ]
              refine wpAnyY_takeC (v := ?_) [44, 43, 42] rC19_41 rC19o_41 (fun _ _ _ h => h) (Or.inl ⟨by kernel_rfl, ?_⟩) hS ?_
              rotate_left
              · intro w' hSw; go_simp; with_reducible rfl
              try simp only [Act.put, List.getElem_toArray, List.getElem_cons_zero, List.getElem_cons_succ, List.setIfInBounds_toArray, List.set_cons_zero, List.set_cons_succ]
              refine wpAnyY_takeC (v := ?_) [44, 43] rC19_42 rC19o_42 (fun _ _ _ h => h) (Or.inl ⟨by kernel_rfl, ?_⟩) hS ?_
              rotate_left
              · intro w' hSw; go_simp; with_reducible rfl
              try simp only [Act.put, List.getElem_toArray, List.getElem_cons_zero, List.getElem_cons_succ, List.setIfInBounds_toArray, List.set_cons_zero, List.set_cons_succ]
              refine wpAnyY_takeC (v := ?_) [44] rC19_43 rC19o_43 (fun _ _ _ h => h) (Or.inl ⟨by kernel_rfl, ?_⟩) hS ?_
              rotate_left
              · intro w' hSw; go_simp; with_reducible rfl
              try simp only [Act.put, List.getElem_toArray, List.getElem_cons_zero, List.getElem_cons_succ, List.setIfInBounds_toArray, List.set_cons_zero, List.set_cons_succ]
              refine wpAnyY_takeC (v := ?_) [] rC19_44 rC19o_44 (fun _ _ _ h => h) (Or.inl ⟨by kernel_rfl, ?_⟩) hS ?_
              rotate_left
              · intro w' hSw; go_simp; with_reducible rfl
              try simp only [Act.put, List.getElem_toArray, List.getElem_cons_zero, List.getElem_cons_succ, List.setIfInBounds_toArray, List.set_cons_zero, List.set_cons_succ]
              refine wpAnyY_takeC (v := ?_) [51, 46] rC19_45 rC19o_45 (fun _ _ _ h => h) (Or.inl ⟨by kernel_rfl, ?_⟩) hS ?_
              rotate_left
              · intro w' hSw; go_simp; with_reducible rfl
              try simp only [Act.put, List.getElem_toArray, List.getElem_cons_zero, List.getElem_cons_succ, List.setIfInBounds_toArray, List.set_cons_zero, List.set_cons_succ]
              refine wpAnyY_takeC (v := ?_) [51] rC19_46 rC19o_46 (fun _ _ _ h => h) (Or.inl ⟨by kernel_rfl, ?_⟩) hS ?_
              rotate_left
              · intro w' hSw; obtain ⟨⟨s0, s1, s2, s3, s4⟩, ⟨s5, s6⟩, s7, s8⟩ := hSw; go_simp; with_reducible rfl
              try simp only [Act.put, List.getElem_toArray, List.getElem_cons_zero, List.getElem_cons_succ, List.setIfInBounds_toArray, List.set_cons_zero, List.set_cons_succ]
              refine wpAnyY_takeC (v := ?_) [51, 50] rC19_47 rC19o_47 (fun _ _ _ h => h) (Or.inl ⟨by kernel_rfl, ?_⟩) hS ?_
              rotate_left
              · intro w' hSw; go_simp; with_reducible rfl
              try simp only [Act.put, List.getElem_toArray, List.getElem_cons_zero, List.getElem_cons_succ, List.setIfInBounds_toArray, List.set_cons_zero, List.set_cons_succ]
              refine wpAnyY_takeC (v := ?_) [51, 50, 49] rC19_48 rC19o_48 (fun _ _ _ h => h) (Or.inl ⟨by kernel_rfl, ?_⟩) hS ?_
              rotate_left
              · intro w' hSw; go_simp; with_reducible rfl
              try simp only [Act.put, List.getElem_toArray, List.getElem_cons_zero, List.getElem_cons_succ, List.setIfInBounds_toArray, List.set_cons_zero, List.set_cons_succ]
              refine wpAnyY_takeC (v := ?_) [51, 50] rC19_49 rC19o_49 (fun _ _ _ h => h) (Or.inl ⟨by kernel_rfl, ?_⟩) hS ?_
              rotate_left
              · intro w' hSw; obtain ⟨⟨s0, s1, s2, s3, s4⟩, ⟨s5, s6⟩, s7, s8⟩ := hSw; go_simp; with_reducible rfl
              try simp only [Act.put, List.getElem_toArray, List.getElem_cons_zero, List.getElem_cons_succ, List.setIfInBounds_toArray, List.set_cons_zero, List.set_cons_succ]
              refine wpAnyY_takeC (v := ?_) [51] rC19_50 rC19o_50 (fun _ _ _ h => h) (Or.inl ⟨by kernel_rfl, ?_⟩) hS ?_
              rotate_left
              · intro w' hSw; go_simp; with_reducible rfl
              try simp only [Act.put, List.getElem_toArray, List.getElem_cons_zero, List.getElem_cons_succ, List.setIfInBounds_toArray, List.set_cons_zero, List.set_cons_succ]
              refine wpAnyY_takeC (v := ?_) [] rC19_51 rC19o_51 (fun _ _ _ h => h) (Or.inl ⟨by kernel_rfl, ?_⟩) hS ?_
              rotate_left
              · intro w' hSw; go_simp; with_reducible rfl
              try simp only [Act.put, List.getElem_toArray, List.getElem_cons_zero, List.getElem_cons_succ, List.setIfInBounds_toArray, List.set_cons_zero, List.set_cons_succ]
              refine wpAnyY_oneW (i := 52) (by kernel_rfl) rC19o_52 (by kernel_rfl) (by kernel_rfl) (fun K52 hK52 => ?_)
              go_simp
              refine hK52.out _ _ ?_
              clear hK52
              try simp only [Act.put, List.getElem_toArray, List.getElem_cons_zero, List.getElem_cons_succ, List.setIfInBounds_toArray, List.set_cons_zero, List.set_cons_succ]
              refine wpAnyY_done (by kernel_rfl) ?_ _
              clear hS
              clear hSk hwm hw1 hw2 hw3 hw4 hd1
              obtain ⟨w7, hw7⟩ : ∃ w7, w7 = w8.drew := ⟨_, rfl⟩
              rw [← hw7] at ga ⊢
              clear hw7
              have gb := ga
              clear ga
              have hSk2 : ∀ W', G w7 W' → W'.cell? ⟨KP, 0, none⟩ = some (.int .i64 T) ∧ W'.cell? ⟨KP, 1, none⟩ = some (.int .i64 C) ∧ W'.cell? ⟨KP, 2, none⟩ = some (.int .i64 L) ∧ W'.cell? ⟨KP, 3, none⟩ = some (.int .i64 sy) ∧ KP < W'.heap.size := fun W' hW => (HSK.out W' (gb.t hW)).1
              go_upto_region 21 with fail
              refine wp_region_Y (S := fun W' => W'.cell? ⟨KP, 0, none⟩ = some (.int .i64 T) ∧ W'.cell? ⟨KP, 1, none⟩ = some (.int .i64 C) ∧ W'.cell? ⟨KP, 2, none⟩ = some (.int .i64 L) ∧ W'.cell? ⟨KP, 3, none⟩ = some (.int .i64 sy) ∧ KP < W'.heap.size) 9 10 rfl (by kernel_rfl) (hSk2 _ (G.rf _).d) (fun hS => ?_)
              have ga := (G.rf w7).d
              refine wpAnyY_take (i := 0) (v := ?_) rfl (by kernel_rfl) (by kernel_rfl) (by kernel_rfl) (by kernel_rfl) (fun _ _ _ h => h) (Or.inl ⟨by kernel_rfl, ?_⟩) hS ?_
              rotate_left
              · intro w' hSw; go_simp; with_reducible rfl
              try simp only [Act.put, List.getElem_toArray, List.getElem_cons_zero, List.getElem_cons_succ, List.setIfInBounds_toArray, List.set_cons_zero, List.set_cons_succ]
              refine wpAnyY_take (i := 1) (v := ?_) rfl (by kernel_rfl) (by kernel_rfl) (by kernel_rfl) (by kernel_rfl) (fun _ _ _ h => h) (Or.inl ⟨by kernel_rfl, ?_⟩) hS ?_
              rotate_left
              · intro w' hSw; go_simp; with_reducible rfl
              try simp only [Act.put, List.getElem_toArray, List.getElem_cons_zero, List.getElem_cons_succ, List.setIfInBounds_toArray, List.set_cons_zero, List.set_cons_succ]
              refine wpAnyY_take (i := 2) (v := ?_) rfl (by kernel_rfl) (by kernel_rfl) (by kernel_rfl) (by kernel_rfl) (fun _ _ _ h => h) (Or.inl ⟨by kernel_rfl, ?_⟩) hS ?_
              rotate_left
              · intro w' hSw; obtain ⟨s0, s1, s2, s3, s4⟩ := hSw; go_simp; with_reducible rfl
              try simp only [Act.put, List.getElem_toArray, List.getElem_cons_zero, List.getElem_cons_succ, List.setIfInBounds_toArray, List.set_cons_zero, List.set_cons_succ]
              refine wpAnyY_take (i := 3) (v := ?_) rfl (by kernel_rfl) (by kernel_rfl) (by kernel_rfl) (by kernel_rfl) (fun _ _ _ h => h) (Or.inl ⟨by kernel_rfl, ?_⟩) hS ?_
              rotate_left
              · intro w' hSw; go_simp; with_reducible rfl
              try simp only [Act.put, List.getElem_toArray, List.getElem_cons_zero, List.getElem_cons_succ, List.setIfInBounds_toArray, List.set_cons_zero, List.set_cons_succ]
              refine wpAnyY_take (i := 4) (v := ?_) rfl (by kernel_rfl) (by kernel_rfl) (by kernel_rfl) (by kernel_rfl) (fun _ _ _ h => h) (Or.inl ⟨by kernel_rfl, ?_⟩) hS ?_
              rotate_left
              · intro w' hSw; go_simp; with_reducible rfl
              try simp only [Act.put, List.getElem_toArray, List.getElem_cons_zero, List.getElem_cons_succ, List.setIfInBounds_toArray, List.set_cons_zero, List.set_cons_succ]
              refine wpAnyY_take (i := 5) (v := ?_) rfl (by kernel_rfl) (by kernel_rfl) (by kernel_rfl) (by kernel_rfl) (fun _ _ _ h => h) (Or.inl ⟨by kernel_rfl, ?_⟩) hS ?_
              rotate_left
              · intro w' hSw; go_simp; with_reducible rfl
              try simp only [Act.put, List.getElem_toArray, List.getElem_cons_zero, List.getElem_cons_succ, List.setIfInBounds_toArray, List.set_cons_zero, List.set_cons_succ]
              refine wpAnyY_take (i := 6) (v := ?_) rfl (by kernel_rfl) (by kernel_rfl) (by kernel_rfl) (by kernel_rfl) (fun _ _ _ h => h) (Or.inl ⟨by kernel_rfl, ?_⟩) hS ?_
              rotate_left
              · intro w' hSw; obtain ⟨s0, s1, s2, s3, s4⟩ := hSw; go_simp; with_reducible rfl
              try simp only [Act.put, List.getElem_toArray, List.getElem_cons_zero, List.getElem_cons_succ, List.setIfInBounds_toArray, List.set_cons_zero, List.set_cons_succ]
              refine wpAnyY_take (i := 7) (v := ?_) rfl (by kernel_rfl) (by kernel_rfl) (by kernel_rfl) (by kernel_rfl) (fun _ _ _ h => h) (Or.inl ⟨by kernel_rfl, ?_⟩) hS ?_
              rotate_left
              · intro w' hSw; go_simp; with_reducible rfl
              try simp only [Act.put, List.getElem_toArray, List.getElem_cons_zero, List.getElem_cons_succ, List.setIfInBounds_toArray, List.set_cons_zero, List.set_cons_succ]
              refine wpAnyY_take (i := 8) (v := ?_) rfl (by kernel_rfl) (by kernel_rfl) (by kernel_rfl) (by kernel_rfl) (fun _ _ _ h => h) (Or.inl ⟨by kernel_rfl, ?_⟩) hS ?_
              rotate_left
              · intro w' hSw; go_simp; with_reducible rfl
              try simp only [Act.put, List.getElem_toArray, List.getElem_cons_zero, List.getElem_cons_succ, List.setIfInBounds_toArray, List.set_cons_zero, List.set_cons_succ]
              refine wpAnyY_oneW (i := 9) (by kernel_rfl) rfl (by kernel_rfl) (by kernel_rfl) (fun K9 hK9 => ?_)
              go_simp
              refine hK9.out _ _ ?_
              clear hK9
              try simp only [Act.put, List.getElem_toArray, List.getElem_cons_zero, List.getElem_cons_succ, List.setIfInBounds_toArray, List.set_cons_zero, List.set_cons_succ]
              refine wpAnyY_done (by kernel_rfl) ?_ _
              clear hS
              clear hSk2
              have gzz := hG.t (((g6.t hG7).t gb).t ga)
              go_wp2_with fail
              go_roundw
              case rel => exact ⟨j + 1, tot + T, cut + C, by omega, rfl, rfl, by go_num, HTO2.out, HCU2.out, gzz⟩
              case measure => simp [intOf] <;> omega
        · obtain rfl : j = r.pools.length := by omega
          have hji : ¬ ((r.pools.length : Nat) : Int) < r.pools.length := by omega
          obtain ⟨p1, p2, p3, p4, p5, p6⟩ := HCQ.out
          have HAS := Lib.hid p2
          have HST := Lib.hid p3
          have HPD := Lib.hid p4
          rw [← HTO.out] at p5
          rw [← HTO.out, ← HCU.out] at p6
          have HP5 := Lib.hid p5
          have HP6 := Lib.hid p6
          have htb := HTB.out _ (Nat.le_refl _)
          have hcb := HCB.out _ (Nat.le_refl _)
          rw [← HTO.out] at htb
          rw [← HCU.out] at hcb
          have hpn : ¬ ((r.racers.length : Nat) : Int) < QL.length := by omega
          have hpn2 : ¬ r.racers.length < QL.length := by omega
          have hql : QL.length ≤ 12 := by omega
          clear p2 p3 p4 p5 p6 p1
          go_upto_region 23 with (go_at_call 19; refine (HPU.out _ gwo).mono ?_; rintro e w2 ⟨hG2, qa, qc, rfl, hrq⟩)
          have HRQ := Lib.hid hrq
          clear m0 m1 m2 l0 hrq HPU
          have b2 := bo.keep hG2
          have m0 := b2.cell 0
          have m1 := b2.cell 1
          have m2 := b2.cell 2
          have l0 := b2.lt
          have g2 := gwo.t hG2
          go_wp2_with fail
          clear m0 m1 m2 l0 hpn hpn2
          go_loopw [16, 17, 18] (fun va vb i wr => ∃ (t : Nat) (sx sy : Int), t ≤ QL.length ∧ va = .int .i64 sx ∧ vb = .int .i64 sy ∧ i = .int .i64 t ∧ Hid (sx = sumT (QL.map Pu.staked) t) ∧ Hid (sy = sumT (QL.map Pu.paid) t) ∧ (0 ≤ sx ∧ sx ≤ 300000000 * t ∧ 0 ≤ sy ∧ sy ≤ 300000000 * t) ∧ G w2 wr) (fun _ _ i _ => QL.length - (intOf i).toNat)
          case atStart => exact ⟨0, 0, 0, Nat.zero_le _, rfl, rfl, rfl, rfl, rfl, by simp, G.rf _⟩
          case round =>
            obtain ⟨t, sx, sy, ht, rfl, rfl, rfl, HSX, HSY, hsb, hG3⟩ := hrel
            obtain ⟨w4, rfl⟩ : ∃ w4, w4 = wr := ⟨_, rfl⟩
            by_cases hltt : t < QL.length
            · have hti : (t : Int) < QL.length := by omega
              rcases HRQ.out.below hG3 with hx | ⟨g1, o1, hge1, hg1, hc1⟩
              · omega
              subst hge1
              have e1 := hc1 t hltt
              have hs1 := HST.out t hltt
              have hs2 := HPD.out t hltt
              have HS1 := Lib.hid (sumT_succ Pu.staked QL hltt)
              have HS2 := Lib.hid (sumT_succ Pu.paid QL hltt)
              rw [← HSX.out] at HS1
              rw [← HSY.out] at HS2
              obtain ⟨X, hX⟩ : ∃ X, X = QL.getD t default := ⟨_, rfl⟩
              rw [← hX] at e1 hs1 hs2 HS1 HS2
              have HX := Lib.hid hX
              clear hX
              obtain ⟨x0, x1, x2⟩ := X
              dsimp only at hs1 hs2 HS1 HS2
              unfold Pu.v at e1
              have hw1 : IntKind.i64.wrap (sx + x1) = sx + x1 := IntWalk.i64_in _ (by omega)
              have hw2 : IntKind.i64.wrap (sy + x2) = sy + x2 := IntWalk.i64_in _ (by omega)
              have hSk0 : ∀ W', G w4 W' → W'.cell? ⟨g1, o1 + t * 3, none⟩ = some (.int .i64 x0) ∧ W'.cell? ⟨g1, o1 + t * 3 + 1, none⟩ = some (.int .i64 x1) ∧ W'.cell? ⟨g1, o1 + t * 3 + 2, none⟩ = some (.int .i64 x2) ∧ g1 < W'.heap.size := fun W' hW => ⟨((bcellB hW).1 g1 _ hg1).trans (e1 0 (by omega)), ((bcellB hW).1 g1 _ hg1).trans (e1 1 (by omega)), ((bcellB hW).1 g1 _ hg1).trans (e1 2 (by omega)), Nat.lt_of_lt_of_le hg1 hW.size⟩
              have HSK := Lib.hid hSk0
              have HC1 := Lib.hid hc1
              clear e1 hc1 hSk0
              by_cases ht0 : t = 0
              · subst ht0
                have hSk := HSK.out
                go_upto_region 29 with fail
                refine wp_region_Y (S := fun W' => W'.cell? ⟨g1, o1 + 0 * 3, none⟩ = some (.int .i64 x0) ∧ W'.cell? ⟨g1, o1 + 0 * 3 + 1, none⟩ = some (.int .i64 x1) ∧ W'.cell? ⟨g1, o1 + 0 * 3 + 2, none⟩ = some (.int .i64 x2) ∧ g1 < W'.heap.size) 15 16 rfl (by kernel_rfl) (hSk _ (G.rf _).d) (fun hS => ?_)
                have ga := (G.rf w4).d
                change wpAnyY _ _ opsC29 _ _ 15 16 (blC29 0) _ _
                refine wpAnyY_takeC (v := ?_) [2, 1] rC29_0 rC29o_0 (fun _ _ _ h => h) (Or.inl ⟨by kernel_rfl, ?_⟩) hS ?_
                rotate_left
                · intro w' hSw; go_simp; with_reducible rfl
                try simp only [Act.put, List.getElem_toArray, List.getElem_cons_zero, List.getElem_cons_succ, List.setIfInBounds_toArray, List.set_cons_zero, List.set_cons_succ]
                refine wpAnyY_takeC (v := ?_) [2] rC29_1 rC29o_1 (fun _ _ _ h => h) (Or.inl ⟨by kernel_rfl, ?_⟩) hS ?_
                rotate_left
                · intro w' hSw; go_simp; with_reducible rfl
                try simp only [Act.put, List.getElem_toArray, List.getElem_cons_zero, List.getElem_cons_succ, List.setIfInBounds_toArray, List.set_cons_zero, List.set_cons_succ]
                refine wpAnyY_takeC (v := ?_) [] rC29_2 rC29o_2 (fun _ _ _ h => h) (Or.inl ⟨by kernel_rfl, ?_⟩) hS ?_
                rotate_left
                · intro w' hSw; go_simp; with_reducible rfl
                try simp only [Act.put, List.getElem_toArray, List.getElem_cons_zero, List.getElem_cons_succ, List.setIfInBounds_toArray, List.set_cons_zero, List.set_cons_succ]
                refine wpAnyY_takeC (v := undef) [14, 7, 6, 5] rC29_3 rC29o_3 (fun _ _ _ h => h) (Or.inr ⟨by kernel_rfl, rfl⟩) hS ?_
                try simp only [Act.put, List.getElem_toArray, List.getElem_cons_zero, List.getElem_cons_succ, List.setIfInBounds_toArray, List.set_cons_zero, List.set_cons_succ]
                refine wpAnyY_takeC (v := undef) [14, 7, 6, 5] rC29_4 rC29o_4 (fun _ _ _ h => h) (Or.inr ⟨by kernel_rfl, rfl⟩) hS ?_
                try simp only [Act.put, List.getElem_toArray, List.getElem_cons_zero, List.getElem_cons_succ, List.setIfInBounds_toArray, List.set_cons_zero, List.set_cons_succ]
                refine wpAnyY_takeC (v := undef) [14, 7, 6] rC29_5 rC29o_5 (fun _ _ _ h => h) (Or.inr ⟨by kernel_rfl, rfl⟩) hS ?_
                try simp only [Act.put, List.getElem_toArray, List.getElem_cons_zero, List.getElem_cons_succ, List.setIfInBounds_toArray, List.set_cons_zero, List.set_cons_succ]
                refine wpAnyY_takeC (v := undef) [14, 7] rC29_6 rC29o_6 (fun _ _ _ h => h) (Or.inr ⟨by kernel_rfl, rfl⟩) hS ?_
                try simp only [Act.put, List.getElem_toArray, List.getElem_cons_zero, List.getElem_cons_succ, List.setIfInBounds_toArray, List.set_cons_zero, List.set_cons_succ]
                refine wpAnyY_takeC (v := undef) [14] rC29_7 rC29o_7 (fun _ _ _ h => h) (Or.inr ⟨by kernel_rfl, rfl⟩) hS ?_
                try simp only [Act.put, List.getElem_toArray, List.getElem_cons_zero, List.getElem_cons_succ, List.setIfInBounds_toArray, List.set_cons_zero, List.set_cons_succ]
                refine wpAnyY_takeC (v := undef) [14, 13, 12, 11] rC29_8 rC29o_8 (fun _ _ _ h => h) (Or.inr ⟨by kernel_rfl, rfl⟩) hS ?_
                try simp only [Act.put, List.getElem_toArray, List.getElem_cons_zero, List.getElem_cons_succ, List.setIfInBounds_toArray, List.set_cons_zero, List.set_cons_succ]
                refine wpAnyY_takeC (v := undef) [14, 13, 12, 11, 10] rC29_9 rC29o_9 (fun _ _ _ h => h) (Or.inr ⟨by kernel_rfl, rfl⟩) hS ?_
                try simp only [Act.put, List.getElem_toArray, List.getElem_cons_zero, List.getElem_cons_succ, List.setIfInBounds_toArray, List.set_cons_zero, List.set_cons_succ]
                refine wpAnyY_takeC (v := undef) [14, 13, 12, 11] rC29_10 rC29o_10 (fun _ _ _ h => h) (Or.inr ⟨by kernel_rfl, rfl⟩) hS ?_
                try simp only [Act.put, List.getElem_toArray, List.getElem_cons_zero, List.getElem_cons_succ, List.setIfInBounds_toArray, List.set_cons_zero, List.set_cons_succ]
                refine wpAnyY_takeC (v := undef) [14, 13, 12] rC29_11 rC29o_11 (fun _ _ _ h => h) (Or.inr ⟨by kernel_rfl, rfl⟩) hS ?_
                try simp only [Act.put, List.getElem_toArray, List.getElem_cons_zero, List.getElem_cons_succ, List.setIfInBounds_toArray, List.set_cons_zero, List.set_cons_succ]
                refine wpAnyY_takeC (v := undef) [14, 13] rC29_12 rC29o_12 (fun _ _ _ h => h) (Or.inr ⟨by kernel_rfl, rfl⟩) hS ?_
                try simp only [Act.put, List.getElem_toArray, List.getElem_cons_zero, List.getElem_cons_succ, List.setIfInBounds_toArray, List.set_cons_zero, List.set_cons_succ]
                refine wpAnyY_takeC (v := undef) [14] rC29_13 rC29o_13 (fun _ _ _ h => h) (Or.inr ⟨by kernel_rfl, rfl⟩) hS ?_
                try simp only [Act.put, List.getElem_toArray, List.getElem_cons_zero, List.getElem_cons_succ, List.setIfInBounds_toArray, List.set_cons_zero, List.set_cons_succ]
                refine wpAnyY_takeC (v := undef) [] rC29_14 rC29o_14 (fun _ _ _ h => h) (Or.inr ⟨by kernel_rfl, rfl⟩) hS ?_
                try simp only [Act.put, List.getElem_toArray, List.getElem_cons_zero, List.getElem_cons_succ, List.setIfInBounds_toArray, List.set_cons_zero, List.set_cons_succ]
                refine wpAnyY_oneW (i := 15) (by kernel_rfl) rC29o_15 (by kernel_rfl) (by kernel_rfl) (fun K15 hK15 => ?_)
                go_simp
                refine hK15.out _ _ ?_
                clear hK15
                try simp only [Act.put, List.getElem_toArray, List.getElem_cons_zero, List.getElem_cons_succ, List.setIfInBounds_toArray, List.set_cons_zero, List.set_cons_succ]
                refine wpAnyY_done (by kernel_rfl) ?_ _
                clear hS
                clear hSk
                obtain ⟨w5, hw5⟩ : ∃ w5, w5 = w4.drew := ⟨_, rfl⟩
                rw [← hw5] at ga ⊢
                clear hw5
                have gb := ga
                clear ga
                have hSk : ∀ W', G w5 W' → W'.cell? ⟨g1, o1 + 0 * 3, none⟩ = some (.int .i64 x0) ∧ W'.cell? ⟨g1, o1 + 0 * 3 + 1, none⟩ = some (.int .i64 x1) ∧ W'.cell? ⟨g1, o1 + 0 * 3 + 2, none⟩ = some (.int .i64 x2) ∧ g1 < W'.heap.size := fun W' hW => HSK.out W' (gb.t hW)
                go_upto_region 31 with fail
                refine wp_region_Y (S := fun W' => W'.cell? ⟨g1, o1 + 0 * 3, none⟩ = some (.int .i64 x0) ∧ W'.cell? ⟨g1, o1 + 0 * 3 + 1, none⟩ = some (.int .i64 x1) ∧ W'.cell? ⟨g1, o1 + 0 * 3 + 2, none⟩ = some (.int .i64 x2) ∧ g1 < W'.heap.size) 15 16 rfl (by kernel_rfl) (hSk _ (G.rf _).d) (fun hS => ?_)
                have ga := (G.rf w5).d
                change wpAnyY _ _ opsC31 _ _ 15 16 (blC31 0) _ _
                refine wpAnyY_takeC (v := ?_) [] rC31_0 rC31o_0 (fun _ _ _ h => h) (Or.inl ⟨by kernel_rfl, ?_⟩) hS ?_
                rotate_left
                · intro w' hSw; go_simp; with_reducible rfl
                try simp only [Act.put, List.getElem_toArray, List.getElem_cons_zero, List.getElem_cons_succ, List.setIfInBounds_toArray, List.set_cons_zero, List.set_cons_succ]
                refine wpAnyY_takeC (v := ?_) [] rC31_1 rC31o_1 (fun _ _ _ h => h) (Or.inl ⟨by kernel_rfl, ?_⟩) hS ?_
                rotate_left
                · intro w' hSw; go_simp; with_reducible rfl
                try simp only [Act.put, List.getElem_toArray, List.getElem_cons_zero, List.getElem_cons_succ, List.setIfInBounds_toArray, List.set_cons_zero, List.set_cons_succ]
                refine wpAnyY_takeC (v := ?_) [] rC31_2 rC31o_2 (fun _ _ _ h => h) (Or.inl ⟨by kernel_rfl, ?_⟩) hS ?_
                rotate_left
                · intro w' hSw; go_simp; with_reducible rfl
                try simp only [Act.put, List.getElem_toArray, List.getElem_cons_zero, List.getElem_cons_succ, List.setIfInBounds_toArray, List.set_cons_zero, List.set_cons_succ]
                refine wpAnyY_takeC (v := ?_) [] rC31_3 rC31o_3 (fun _ _ _ h => h) (Or.inl ⟨by kernel_rfl, ?_⟩) hS ?_
                rotate_left
                · intro w' hSw; go_simp; with_reducible rfl
                try simp only [Act.put, List.getElem_toArray, List.getElem_cons_zero, List.getElem_cons_succ, List.setIfInBounds_toArray, List.set_cons_zero, List.set_cons_succ]
                refine wpAnyY_takeC (v := ?_) [] rC31_4 rC31o_4 (fun _ _ _ h => h) (Or.inl ⟨by kernel_rfl, ?_⟩) hS ?_
                rotate_left
                · intro w' hSw; go_simp; with_reducible rfl
                try simp only [Act.put, List.getElem_toArray, List.getElem_cons_zero, List.getElem_cons_succ, List.setIfInBounds_toArray, List.set_cons_zero, List.set_cons_succ]
                refine wpAnyY_takeC (v := ?_) [] rC31_5 rC31o_5 (fun _ _ _ h => h) (Or.inl ⟨by kernel_rfl, ?_⟩) hS ?_
                rotate_left
                · intro w' hSw; obtain ⟨s0, s1, s2, s3⟩ := hSw; go_simp; with_reducible rfl
                try simp only [Act.put, List.getElem_toArray, List.getElem_cons_zero, List.getElem_cons_succ, List.setIfInBounds_toArray, List.set_cons_zero, List.set_cons_succ]
                refine wpAnyY_takeC (v := ?_) [] rC31_6 rC31o_6 (fun _ _ _ h => h) (Or.inl ⟨by kernel_rfl, ?_⟩) hS ?_
                rotate_left
                · intro w' hSw; go_simp; with_reducible rfl
                try simp only [Act.put, List.getElem_toArray, List.getElem_cons_zero, List.getElem_cons_succ, List.setIfInBounds_toArray, List.set_cons_zero, List.set_cons_succ]
                refine wpAnyY_takeC (v := ?_) [] rC31_7 rC31o_7 (fun _ _ _ h => h) (Or.inl ⟨by kernel_rfl, ?_⟩) hS ?_
                rotate_left
                · intro w' hSw; go_simp; with_reducible rfl
                try simp only [Act.put, List.getElem_toArray, List.getElem_cons_zero, List.getElem_cons_succ, List.setIfInBounds_toArray, List.set_cons_zero, List.set_cons_succ]
                refine wpAnyY_takeC (v := ?_) [] rC31_8 rC31o_8 (fun _ _ _ h => h) (Or.inl ⟨by kernel_rfl, ?_⟩) hS ?_
                rotate_left
                · intro w' hSw; go_simp; with_reducible rfl
                try simp only [Act.put, List.getElem_toArray, List.getElem_cons_zero, List.getElem_cons_succ, List.setIfInBounds_toArray, List.set_cons_zero, List.set_cons_succ]
                refine wpAnyY_takeC (v := ?_) [] rC31_9 rC31o_9 (fun _ _ _ h => h) (Or.inl ⟨by kernel_rfl, ?_⟩) hS ?_
                rotate_left
                · intro w' hSw; go_simp; with_reducible rfl
                try simp only [Act.put, List.getElem_toArray, List.getElem_cons_zero, List.getElem_cons_succ, List.setIfInBounds_toArray, List.set_cons_zero, List.set_cons_succ]
                refine wpAnyY_takeC (v := ?_) [] rC31_10 rC31o_10 (fun _ _ _ h => h) (Or.inl ⟨by kernel_rfl, ?_⟩) hS ?_
                rotate_left
                · intro w' hSw; go_simp; with_reducible rfl
                try simp only [Act.put, List.getElem_toArray, List.getElem_cons_zero, List.getElem_cons_succ, List.setIfInBounds_toArray, List.set_cons_zero, List.set_cons_succ]
                refine wpAnyY_takeC (v := ?_) [] rC31_11 rC31o_11 (fun _ _ _ h => h) (Or.inl ⟨by kernel_rfl, ?_⟩) hS ?_
                rotate_left
                · intro w' hSw; go_simp; with_reducible rfl
                try simp only [Act.put, List.getElem_toArray, List.getElem_cons_zero, List.getElem_cons_succ, List.setIfInBounds_toArray, List.set_cons_zero, List.set_cons_succ]
                refine wpAnyY_takeC (v := ?_) [] rC31_12 rC31o_12 (fun _ _ _ h => h) (Or.inl ⟨by kernel_rfl, ?_⟩) hS ?_
                rotate_left
                · intro w' hSw; obtain ⟨s0, s1, s2, s3⟩ := hSw; go_simp; with_reducible rfl
                try simp only [Act.put, List.getElem_toArray, List.getElem_cons_zero, List.getElem_cons_succ, List.setIfInBounds_toArray, List.set_cons_zero, List.set_cons_succ]
                refine wpAnyY_takeC (v := ?_) [] rC31_13 rC31o_13 (fun _ _ _ h => h) (Or.inl ⟨by kernel_rfl, ?_⟩) hS ?_
                rotate_left
                · intro w' hSw; go_simp; with_reducible rfl
                try simp only [Act.put, List.getElem_toArray, List.getElem_cons_zero, List.getElem_cons_succ, List.setIfInBounds_toArray, List.set_cons_zero, List.set_cons_succ]
                refine wpAnyY_takeC (v := ?_) [] rC31_14 rC31o_14 (fun _ _ _ h => h) (Or.inl ⟨by kernel_rfl, ?_⟩) hS ?_
                rotate_left
                · intro w' hSw; go_simp; with_reducible rfl
                try simp only [Act.put, List.getElem_toArray, List.getElem_cons_zero, List.getElem_cons_succ, List.setIfInBounds_toArray, List.set_cons_zero, List.set_cons_succ]
                refine wpAnyY_oneW (i := 15) (by kernel_rfl) rC31o_15 (by kernel_rfl) (by kernel_rfl) (fun K15 hK15 => ?_)
                go_simp
                refine hK15.out _ _ ?_
                clear hK15
                try simp only [Act.put, List.getElem_toArray, List.getElem_cons_zero, List.getElem_cons_succ, List.setIfInBounds_toArray, List.set_cons_zero, List.set_cons_succ]
                refine wpAnyY_done (by kernel_rfl) ?_ _
                clear hS
                clear hSk
                have gzz := (hG3.t gb).t ga
                go_wp2_with fail
                go_roundw
                case rel => exact ⟨0 + 1, sx + x1, sy + x2, by omega, rfl, rfl, by go_num, HS1.out.symm, HS2.out.symm, by omega, gzz⟩
                case measure => simp [intOf] <;> omega
              · obtain ⟨m, hm⟩ : ∃ m, m = t - 1 := ⟨_, rfl⟩
                have hti0 : (0 : Int) < (t : Int) := by omega
                have hd0 : decide ((0 : Int) < (t : Int)) = true := decide_eq_true hti0
                have hd00 : decide (0 < t) = true := decide_eq_true (by omega)
                have hwt : IntKind.i64.wrap ((t : Int) - 1) = (m : Int) := by
                  rw [show (t : Int) - 1 = (m : Int) by omega]
                  exact IntWalk.i64_in _ (by omega)
                have hml : m < QL.length := by omega
                have hmi : (m : Int) < QL.length := by omega
                have hasc := HAS.out m (by omega)
                rw [show m + 1 = t by omega, ← HX.out] at hasc
                have e0 := HC1.out m hml 0 (by omega)
                generalize QL.getD m default = Z at *
                obtain ⟨z0, z1, z2⟩ := Z
                dsimp only at hasc
                have hdd : decide (x0 ≤ z0) = false := decide_eq_false (by omega)
                have hSk : ∀ W', G w4 W' → (W'.cell? ⟨g1, o1 + t * 3, none⟩ = some (.int .i64 x0) ∧ W'.cell? ⟨g1, o1 + t * 3 + 1, none⟩ = some (.int .i64 x1) ∧ W'.cell? ⟨g1, o1 + t * 3 + 2, none⟩ = some (.int .i64 x2) ∧ g1 < W'.heap.size) ∧ W'.cell? ⟨g1, o1 + m * 3, none⟩ = some (.int .i64 z0) := fun W' hW => ⟨HSK.out W' hW, ((bcellB hW).1 g1 _ hg1).trans e0⟩
                clear hm hasc e0 ht0
                go_upto_region 29 with fail
                refine wp_region_Y (S := fun W' => (W'.cell? ⟨g1, o1 + t * 3, none⟩ = some (.int .i64 x0) ∧ W'.cell? ⟨g1, o1 + t * 3 + 1, none⟩ = some (.int .i64 x1) ∧ W'.cell? ⟨g1, o1 + t * 3 + 2, none⟩ = some (.int .i64 x2) ∧ g1 < W'.heap.size) ∧ W'.cell? ⟨g1, o1 + m * 3, none⟩ = some (.int .i64 z0)) 15 16 rfl (by kernel_rfl) (hSk _ (G.rf _).d) (fun hS => ?_)
                have ga := (G.rf w4).d
                change wpAnyY _ _ opsC29 _ _ 15 16 (blC29 0) _ _
                refine wpAnyY_takeC (v := ?_) [2, 1] rC29_0 rC29o_0 (fun _ _ _ h => h) (Or.inl ⟨by kernel_rfl, ?_⟩) hS ?_
                rotate_left
                · intro w' hSw; go_simp; with_reducible rfl
                try simp only [Act.put, List.getElem_toArray, List.getElem_cons_zero, List.getElem_cons_succ, List.setIfInBounds_toArray, List.set_cons_zero, List.set_cons_succ]
                refine wpAnyY_takeC (v := ?_) [2] rC29_1 rC29o_1 (fun _ _ _ h => h) (Or.inl ⟨by kernel_rfl, ?_⟩) hS ?_
                rotate_left
                · intro w' hSw; go_simp; with_reducible rfl
                try simp only [Act.put, List.getElem_toArray, List.getElem_cons_zero, List.getElem_cons_succ, List.setIfInBounds_toArray, List.set_cons_zero, List.set_cons_succ]
                refine wpAnyY_takeC (v := ?_) [] rC29_2 rC29o_2 (fun _ _ _ h => h) (Or.inl ⟨by kernel_rfl, ?_⟩) hS ?_
                rotate_left
                · intro w' hSw; go_simp; with_reducible rfl
                try simp only [Act.put, List.getElem_toArray, List.getElem_cons_zero, List.getElem_cons_succ, List.setIfInBounds_toArray, List.set_cons_zero, List.set_cons_succ]
                refine wpAnyY_takeC (v := ?_) [14, 7, 6, 5] rC29_3 rC29o_3 (fun _ _ _ h => h) (Or.inl ⟨by kernel_rfl, ?_⟩) hS ?_
                rotate_left
                · intro w' hSw; go_simp; with_reducible rfl
                try simp only [Act.put, List.getElem_toArray, List.getElem_cons_zero, List.getElem_cons_succ, List.setIfInBounds_toArray, List.set_cons_zero, List.set_cons_succ]
                refine wpAnyY_takeC (v := ?_) [14, 7, 6, 5] rC29_4 rC29o_4 (fun _ _ _ h => h) (Or.inl ⟨by kernel_rfl, ?_⟩) hS ?_
                rotate_left
                · intro w' hSw; go_simp; with_reducible rfl
                try simp only [Act.put, List.getElem_toArray, List.getElem_cons_zero, List.getElem_cons_succ, List.setIfInBounds_toArray, List.set_cons_zero, List.set_cons_succ]
                refine wpAnyY_takeC (v := ?_) [14, 7, 6] rC29_5 rC29o_5 (fun _ _ _ h => h) (Or.inl ⟨by kernel_rfl, ?_⟩) hS ?_
                rotate_left
                · intro w' hSw; go_simp; with_reducible rfl
                try simp only [Act.put, List.getElem_toArray, List.getElem_cons_zero, List.getElem_cons_succ, List.setIfInBounds_toArray, List.set_cons_zero, List.set_cons_succ]
                refine wpAnyY_takeC (v := ?_) [14, 7] rC29_6 rC29o_6 (fun _ _ _ h => h) (Or.inl ⟨by kernel_rfl, ?_⟩) hS ?_
                rotate_left
                · intro w' hSw; go_simp; with_reducible rfl
                try simp only [Act.put, List.getElem_toArray, List.getElem_cons_zero, List.getElem_cons_succ, List.setIfInBounds_toArray, List.set_cons_zero, List.set_cons_succ]
                refine wpAnyY_takeC (v := ?_) [14] rC29_7 rC29o_7 (fun _ _ _ h => h) (Or.inl ⟨by kernel_rfl, ?_⟩) hS ?_
                rotate_left
                · intro w' hSw; obtain ⟨⟨s0, s1, s2, s3⟩, s4⟩ := hSw; go_simp; with_reducible rfl
                try simp only [Act.put, List.getElem_toArray, List.getElem_cons_zero, List.getElem_cons_succ, List.setIfInBounds_toArray, List.set_cons_zero, List.set_cons_succ]
                refine wpAnyY_takeC (v := ?_) [14, 13, 12, 11] rC29_8 rC29o_8 (fun _ _ _ h => h) (Or.inl ⟨by kernel_rfl, ?_⟩) hS ?_
                rotate_left
                · intro w' hSw; go_simp; with_reducible rfl
                try simp only [Act.put, List.getElem_toArray, List.getElem_cons_zero, List.getElem_cons_succ, List.setIfInBounds_toArray, List.set_cons_zero, List.set_cons_succ]
                refine wpAnyY_takeC (v := ?_) [14, 13, 12, 11, 10] rC29_9 rC29o_9 (fun _ _ _ h => h) (Or.inl ⟨by kernel_rfl, ?_⟩) hS ?_
                rotate_left
                · intro w' hSw; go_simp; with_reducible rfl
                try simp only [Act.put, List.getElem_toArray, List.getElem_cons_zero, List.getElem_cons_succ, List.setIfInBounds_toArray, List.set_cons_zero, List.set_cons_succ]
                refine wpAnyY_takeC (v := ?_) [14, 13, 12, 11] rC29_10 rC29o_10 (fun _ _ _ h => h) (Or.inl ⟨by kernel_rfl, ?_⟩) hS ?_
                rotate_left
                · intro w' hSw; go_simp; with_reducible rfl
                try simp only [Act.put, List.getElem_toArray, List.getElem_cons_zero, List.getElem_cons_succ, List.setIfInBounds_toArray, List.set_cons_zero, List.set_cons_succ]
                refine wpAnyY_takeC (v := ?_) [14, 13, 12] rC29_11 rC29o_11 (fun _ _ _ h => h) (Or.inl ⟨by kernel_rfl, ?_⟩) hS ?_
                rotate_left
                · intro w' hSw; go_simp; with_reducible rfl
                try simp only [Act.put, List.getElem_toArray, List.getElem_cons_zero, List.getElem_cons_succ, List.setIfInBounds_toArray, List.set_cons_zero, List.set_cons_succ]
                refine wpAnyY_takeC (v := ?_) [14, 13] rC29_12 rC29o_12 (fun _ _ _ h => h) (Or.inl ⟨by kernel_rfl, ?_⟩) hS ?_
                rotate_left
                · intro w' hSw; go_simp; with_reducible rfl
                try simp only [Act.put, List.getElem_toArray, List.getElem_cons_zero, List.getElem_cons_succ, List.setIfInBounds_toArray, List.set_cons_zero, List.set_cons_succ]
                refine wpAnyY_takeC (v := ?_) [14] rC29_13 rC29o_13 (fun _ _ _ h => h) (Or.inl ⟨by kernel_rfl, ?_⟩) hS ?_
                rotate_left
                · intro w' hSw; obtain ⟨⟨s0, s1, s2, s3⟩, s4⟩ := hSw; go_simp; with_reducible rfl
                try simp only [Act.put, List.getElem_toArray, List.getElem_cons_zero, List.getElem_cons_succ, List.setIfInBounds_toArray, List.set_cons_zero, List.set_cons_succ]
                refine wpAnyY_takeC (v := ?_) [] rC29_14 rC29o_14 (fun _ _ _ h => h) (Or.inl ⟨by kernel_rfl, ?_⟩) hS ?_
                rotate_left
                · intro w' hSw; go_simp; with_reducible rfl
                try simp only [Act.put, List.getElem_toArray, List.getElem_cons_zero, List.getElem_cons_succ, List.setIfInBounds_toArray, List.set_cons_zero, List.set_cons_succ]
                refine wpAnyY_oneW (i := 15) (by kernel_rfl) rC29o_15 (by kernel_rfl) (by kernel_rfl) (fun K15 hK15 => ?_)
                go_simp
                refine hK15.out _ _ ?_
                clear hK15
                try simp only [Act.put, List.getElem_toArray, List.getElem_cons_zero, List.getElem_cons_succ, List.setIfInBounds_toArray, List.set_cons_zero, List.set_cons_succ]
                refine wpAnyY_done (by kernel_rfl) ?_ _
                clear hS
                clear hSk
                obtain ⟨w5, hw5⟩ : ∃ w5, w5 = w4.drew := ⟨_, rfl⟩
                rw [← hw5] at ga ⊢
                clear hw5
                have gb := ga
                clear ga
                have hSk : ∀ W', G w5 W' → W'.cell? ⟨g1, o1 + t * 3, none⟩ = some (.int .i64 x0) ∧ W'.cell? ⟨g1, o1 + t * 3 + 1, none⟩ = some (.int .i64 x1) ∧ W'.cell? ⟨g1, o1 + t * 3 + 2, none⟩ = some (.int .i64 x2) ∧ g1 < W'.heap.size := fun W' hW => HSK.out W' (gb.t hW)
                go_upto_region 31 with fail
                refine wp_region_Y (S := fun W' => W'.cell? ⟨g1, o1 + t * 3, none⟩ = some (.int .i64 x0) ∧ W'.cell? ⟨g1, o1 + t * 3 + 1, none⟩ = some (.int .i64 x1) ∧ W'.cell? ⟨g1, o1 + t * 3 + 2, none⟩ = some (.int .i64 x2) ∧ g1 < W'.heap.size) 15 16 rfl (by kernel_rfl) (hSk _ (G.rf _).d) (fun hS => ?_)
                have ga := (G.rf w5).d
                change wpAnyY _ _ opsC31 _ _ 15 16 (blC31 0) _ _
                refine wpAnyY_takeC (v := ?_) [] rC31_0 rC31o_0 (fun _ _ _ h => h) (Or.inl ⟨by kernel_rfl, ?_⟩) hS ?_
                rotate_left
                · intro w' hSw; go_simp; with_reducible rfl
                try simp only [Act.put, List.getElem_toArray, List.getElem_cons_zero, List.getElem_cons_succ, List.setIfInBounds_toArray, List.set_cons_zero, List.set_cons_succ]
                refine wpAnyY_takeC (v := ?_) [] rC31_1 rC31o_1 (fun _ _ _ h => h) (Or.inl ⟨by kernel_rfl, ?_⟩) hS ?_
                rotate_left
                · intro w' hSw; go_simp; with_reducible rfl
                try simp only [Act.put, List.getElem_toArray, List.getElem_cons_zero, List.getElem_cons_succ, List.setIfInBounds_toArray, List.set_cons_zero, List.set_cons_succ]
                refine wpAnyY_takeC (v := ?_) [] rC31_2 rC31o_2 (fun _ _ _ h => h) (Or.inl ⟨by kernel_rfl, ?_⟩) hS ?_
                rotate_left
                · intro w' hSw; go_simp; with_reducible rfl
                try simp only [Act.put, List.getElem_toArray, List.getElem_cons_zero, List.getElem_cons_succ, List.setIfInBounds_toArray, List.set_cons_zero, List.set_cons_succ]
                refine wpAnyY_takeC (v := ?_) [] rC31_3 rC31o_3 (fun _ _ _ h => h) (Or.inl ⟨by kernel_rfl, ?_⟩) hS ?_
                rotate_left
                · intro w' hSw; go_simp; with_reducible rfl
                try simp only [Act.put, List.getElem_toArray, List.getElem_cons_zero, List.getElem_cons_succ, List.setIfInBounds_toArray, List.set_cons_zero, List.set_cons_succ]
                refine wpAnyY_takeC (v := ?_) [] rC31_4 rC31o_4 (fun _ _ _ h => h) (Or.inl ⟨by kernel_rfl, ?_⟩) hS ?_
                rotate_left
                · intro w' hSw; go_simp; with_reducible rfl
                try simp only [Act.put, List.getElem_toArray, List.getElem_cons_zero, List.getElem_cons_succ, List.setIfInBounds_toArray, List.set_cons_zero, List.set_cons_succ]
                refine wpAnyY_takeC (v := ?_) [] rC31_5 rC31o_5 (fun _ _ _ h => h) (Or.inl ⟨by kernel_rfl, ?_⟩) hS ?_
                rotate_left
                · intro w' hSw; obtain ⟨s0, s1, s2, s3⟩ := hSw; go_simp; with_reducible rfl
                try simp only [Act.put, List.getElem_toArray, List.getElem_cons_zero, List.getElem_cons_succ, List.setIfInBounds_toArray, List.set_cons_zero, List.set_cons_succ]
                refine wpAnyY_takeC (v := ?_) [] rC31_6 rC31o_6 (fun _ _ _ h => h) (Or.inl ⟨by kernel_rfl, ?_⟩) hS ?_
                rotate_left
                · intro w' hSw; go_simp; with_reducible rfl
                try simp only [Act.put, List.getElem_toArray, List.getElem_cons_zero, List.getElem_cons_succ, List.setIfInBounds_toArray, List.set_cons_zero, List.set_cons_succ]
                refine wpAnyY_takeC (v := ?_) [] rC31_7 rC31o_7 (fun _ _ _ h => h) (Or.inl ⟨by kernel_rfl, ?_⟩) hS ?_
                rotate_left
                · intro w' hSw; go_simp; with_reducible rfl
                try simp only [Act.put, List.getElem_toArray, List.getElem_cons_zero, List.getElem_cons_succ, List.setIfInBounds_toArray, List.set_cons_zero, List.set_cons_succ]
                refine wpAnyY_takeC (v := ?_) [] rC31_8 rC31o_8 (fun _ _ _ h => h) (Or.inl ⟨by kernel_rfl, ?_⟩) hS ?_
                rotate_left
                · intro w' hSw; go_simp; with_reducible rfl
                try simp only [Act.put, List.getElem_toArray, List.getElem_cons_zero, List.getElem_cons_succ, List.setIfInBounds_toArray, List.set_cons_zero, List.set_cons_succ]
                refine wpAnyY_takeC (v := ?_) [] rC31_9 rC31o_9 (fun _ _ _ h => h) (Or.inl ⟨by kernel_rfl, ?_⟩) hS ?_
                rotate_left
                · intro w' hSw; go_simp; with_reducible rfl
                try simp only [Act.put, List.getElem_toArray, List.getElem_cons_zero, List.getElem_cons_succ, List.setIfInBounds_toArray, List.set_cons_zero, List.set_cons_succ]
                refine wpAnyY_takeC (v := ?_) [] rC31_10 rC31o_10 (fun _ _ _ h => h) (Or.inl ⟨by kernel_rfl, ?_⟩) hS ?_
                rotate_left
                · intro w' hSw; go_simp; with_reducible rfl
                try simp only [Act.put, List.getElem_toArray, List.getElem_cons_zero, List.getElem_cons_succ, List.setIfInBounds_toArray, List.set_cons_zero, List.set_cons_succ]
                refine wpAnyY_takeC (v := ?_) [] rC31_11 rC31o_11 (fun _ _ _ h => h) (Or.inl ⟨by kernel_rfl, ?_⟩) hS ?_
                rotate_left
                · intro w' hSw; go_simp; with_reducible rfl
                try simp only [Act.put, List.getElem_toArray, List.getElem_cons_zero, List.getElem_cons_succ, List.setIfInBounds_toArray, List.set_cons_zero, List.set_cons_succ]
                refine wpAnyY_takeC (v := ?_) [] rC31_12 rC31o_12 (fun _ _ _ h => h) (Or.inl ⟨by kernel_rfl, ?_⟩) hS ?_
                rotate_left
                · intro w' hSw; obtain ⟨s0, s1, s2, s3⟩ := hSw; go_simp; with_reducible rfl
                try simp only [Act.put, List.getElem_toArray, List.getElem_cons_zero, List.getElem_cons_succ, List.setIfInBounds_toArray, List.set_cons_zero, List.set_cons_succ]
                refine wpAnyY_takeC (v := ?_) [] rC31_13 rC31o_13 (fun _ _ _ h => h) (Or.inl ⟨by kernel_rfl, ?_⟩) hS ?_
                rotate_left
                · intro w' hSw; go_simp; with_reducible rfl
                try simp only [Act.put, List.getElem_toArray, List.getElem_cons_zero, List.getElem_cons_succ, List.setIfInBounds_toArray, List.set_cons_zero, List.set_cons_succ]
                refine wpAnyY_takeC (v := ?_) [] rC31_14 rC31o_14 (fun _ _ _ h => h) (Or.inl ⟨by kernel_rfl, ?_⟩) hS ?_
                rotate_left
                · intro w' hSw; go_simp; with_reducible rfl
                try simp only [Act.put, List.getElem_toArray, List.getElem_cons_zero, List.getElem_cons_succ, List.setIfInBounds_toArray, List.set_cons_zero, List.set_cons_succ]
                refine wpAnyY_oneW (i := 15) (by kernel_rfl) rC31o_15 (by kernel_rfl) (by kernel_rfl) (fun K15 hK15 => ?_)
                go_simp
                refine hK15.out _ _ ?_
                clear hK15
                try simp only [Act.put, List.getElem_toArray, List.getElem_cons_zero, List.getElem_cons_succ, List.setIfInBounds_toArray, List.set_cons_zero, List.set_cons_succ]
                refine wpAnyY_done (by kernel_rfl) ?_ _
                clear hS
                clear hSk
                have gzz := (hG3.t gb).t ga
                go_wp2_with fail
                go_roundw
                case rel => exact ⟨t + 1, sx + x1, sy + x2, by omega, rfl, rfl, by go_num, HS1.out.symm, HS2.out.symm, by omega, gzz⟩
                case measure => simp [intOf] <;> omega
            · have htl : t = QL.length := by omega
              have hti : ¬ (t : Int) < QL.length := by omega
              have e1 : sx = tot := by rw [HSX.out, htl, sumT_all, HP5.out]
              have e2 : sy = tot - cut := by rw [HSY.out, htl, sumT_all, HP6.out]
              have hwz : IntKind.i64.wrap (tot - cut) = tot - cut := IntWalk.i64_in _ (by omega)
              clear htl
              subst e1 e2
              go_wp2_with (go_at_call 15; refine (HWK.out _).mono ?_; rintro e w16 ⟨rfl, hG16⟩)
              have gz := (g2.t hG3).t hG16
              first | exact ⟨rfl, gz⟩ | (go_ret; exact ⟨rfl, gz⟩)
  · rw [hFR] at HFA
    clear hFR HCH hrv
    go_wp2_with (first | (go_at_call 13; refine (HFA.out _ g0).mono ?_; rintro e w2 ⟨rfl, hG2⟩) | (go_at_call 15; refine (HWK.out _).mono ?_; rintro e w4 ⟨rfl, hG4⟩))
    have gz := (g0.t hG2).t hG4
    first | exact ⟨rfl, gz⟩ | (go_ret; exact ⟨rfl, gz⟩)
end Go.Proofs.YtnkmcoljijmgpaaGreat
