import Derived.Test.YtnkmcoljijmgpaaGreatRm
import Derived.Test.YtnkmcoljijmgpaaGreatCb
set_option linter.unusedSimpArgs false
set_option linter.unusedVariables false
namespace Go.Proofs.YtnkmcoljijmgpaaGreat
open Go.RowKit Go.Shelf Go.Sort Go.Maps
attribute [local go_sem] Oper.semAt_some
set_option maxRecDepth 100000 in
set_option maxHeartbeats 16000000 in
theorem CasesLaw (r : Ra) (p b : Int) (w : World) (h : r.Laid w) (hn : r.Nil) : Calls Tryz.prog 7 #[.agg r.v, .int .i64 p, .int .i64 b] w fun e w' => e = .returned (.bool true) ∧ G w w' := by
  have HVA := Lib.hid (fun (W : World) (hW : G w W) => valid8_any r p W (h.keep hW))
  have HWK := Lib.hid (fun (W : World) => works_any W)
  have hrv : r.v = #[.slice r.ra r.racers.length r.rc, .slice r.pa r.pools.length r.pc, .slice r.ta r.protests.length r.tc] := rfl
  obtain ⟨W1, hW1⟩ : ∃ W1, W1 = w.alloc (.cells #[.slice r.ra r.racers.length r.rc, .slice r.pa r.pools.length r.pc, .slice r.ta r.protests.length r.tc] 26) := ⟨_, rfl⟩
  have g0 : G w W1 := by rw [hW1]; exact (G.rf _).a _
  have b0 : Blk W1 w.heap.size 26 #[.slice r.ra r.racers.length r.rc, .slice r.pa r.pools.length r.pc, .slice r.ta r.protests.length r.tc] := by rw [hW1]; exact Blk.new _ _ _
  rw [hrv] at HVA ⊢
  go_enter Tryz.func7, Tryz.ntmps7
  go_upto_region 1 with fail
  change Code.wp _ _ _ _ (w.alloc (.cells #[.slice r.ra r.racers.length r.rc, .slice r.pa r.pools.length r.pc, .slice r.ta r.protests.length r.tc] 26))
  rw [← hW1]
  clear hW1
  have m0 := b0.cell 0
  have m1 := b0.cell 1
  have m2 := b0.cell 2
  have l0 := b0.lt
  cases hVB : valR r p
  · rw [hVB] at HVA
    clear h hn
    go_wp2_with (first | (go_at_call 20; refine (HVA.out _ g0).mono ?_; rintro e w2 ⟨rfl, hG2⟩) | (go_at_call 15; refine (HWK.out _).mono ?_; rintro e w3 ⟨rfl, hG3⟩))
    have gz := (g0.t hG2).t hG3
    first | exact ⟨rfl, gz⟩ | (go_ret; exact ⟨rfl, gz⟩)
  · rw [hVB] at HVA
    obtain ⟨hat, hrb, hp0, hpl⟩ := valR_at h hVB
    have hq0 := valR_q hVB
    have h12 := (uniq_of (race_parts hrb)).1
    have HNL : Hid ((namedL r p).length ≤ 1000) := by
      show (namedL r p).length ≤ 1000
      unfold namedL
      rw [List.length_map]
      have := runners_len r p
      omega
    have HNA := Lib.hid (fun (W : World) (hW : G w W) => naQ0 r p (namedL r p).length W (hat.keep hW) rfl)
    rw [hrv] at HNA
    cases hIN : inL (namedL r p) b
    · clear h hn hVB hat hrb hp0 hpl hq0 h12
      go_wp2_with (first | (go_at_call 20; refine (HVA.out _ g0).mono ?_; rintro e w2 ⟨rfl, hG2⟩; clear m0 m1 m2 l0; have m0 := (b0.keep hG2).cell 0; have m1 := (b0.keep hG2).cell 1; have m2 := (b0.keep hG2).cell 2; have l0 := (b0.keep hG2).lt) | (go_at_call 16; refine (HNA.out _ (g0.t hG2)).mono ?_; rintro e w3 ⟨hG3, na, nc, rfl, hni⟩) | (go_at_call 28; refine (In_any _ _ _ _ _ hni HNL.out).mono ?_; rintro e w4 ⟨rfl, hG4⟩; rw [hIN]) | (go_at_call 15; refine (HWK.out _).mono ?_; rintro e w9 ⟨rfl, hG9⟩))
      have gz := (((g0.t hG2).t hG3).t hG4).t hG9
      first | exact ⟨rfl, gz⟩ | (go_ret; exact ⟨rfl, gz⟩)
    have hqb := named_q hq0 hIN
    have hcan := canOk hqb
    have HC1 := Lib.hid (fun (W : World) (hW : G w W) => canC r p b W (hat.keep hW))
    have HC2 := Lib.hid (fun (W : World) (hW : G w W) => fiC r p W (hat.keep hW) hq0)
    have HC3 := Lib.hid (fun (n : Nat) (W : World) (hW : G w W) => (show Calls Tryz.prog 30 #[.agg r.v, .int .i64 (n : Nat)] W (fun e w' => G W w' ∧ ∃ o : Ra, e = .returned (.agg #[.slice o.ra o.racers.length o.rc, .slice o.pa o.pools.length o.pc, .slice none 0 0]) ∧ o.racers.map rcP = r.racers.map rcP ∧ o.pools.map poP = r.pools.map poP ∧ o.protests = r.protests ∧ (⟨o.ra, o.rc, o.racers.map (outS (stOf r.protests n)), o.pa, o.pc, o.pools, none, 0, []⟩ : Ra).At w') from Case_any r n W (hat.keep hW) hn hrb))
    rw [hcan] at HC1
    obtain ⟨lo, hlo⟩ : ∃ lo, lo = canLo (fuOf r p none 0) b (caseL r.protests) := ⟨_, rfl⟩
    obtain ⟨hi, hhi⟩ : ∃ hi, hi = canHi (fuOf r p none 0) b (caseL r.protests) := ⟨_, rfl⟩
    rw [← hlo, ← hhi] at HC1
    dsimp only at HC1
    rw [hrv] at HC1 HC2 HC3
    have HLO := Lib.hid hlo
    have HHI := Lib.hid hhi
    have HRB := Lib.hid hrb
    have HQB := Lib.hid hqb
    have hnp := race_np hrb
    obtain ⟨NN, hNN⟩ : ∃ NN, NN = 2 ^ r.protests.length := ⟨_, rfl⟩
    have hw64 : wrap64 ((2 : Int) ^ r.protests.length) = ((NN : Nat) : Int) := by
      have e : ((2 : Int) ^ r.protests.length) = ((2 ^ r.protests.length : Nat) : Int) := by simp
      rw [e, hNN]
      have h5 : ∀ N : Nat, N ≤ 16 → wrap64 (N : Int) = N := fun N h => IntWalk.wrap64_in _ (by omega)
      exact h5 _ (Nat.pow_le_pow_right (n := 2) (by decide) hnp)
    have hn16 : NN ≤ 16 := by rw [hNN]; exact Nat.pow_le_pow_right (n := 2) (by decide) hnp
    have HNN := Lib.hid hNN
    have HW64 := Lib.hid hw64
    clear h hn hVB hat hrb hq0 hrv hp0 hpl hcan hlo hhi hqb hNN hw64
    go_upto_region 3 with (first | (go_at_call 20; refine (HVA.out _ g0).mono ?_; rintro e w2 ⟨rfl, hG2⟩; clear m0 m1 m2 l0; have m0 := (b0.keep hG2).cell 0; have m1 := (b0.keep hG2).cell 1; have m2 := (b0.keep hG2).cell 2; have l0 := (b0.keep hG2).lt) | (go_at_call 16; refine (HNA.out _ (g0.t hG2)).mono ?_; rintro e w3 ⟨hG3, na, nc, rfl, hni⟩) | (go_at_call 28; refine (In_any _ _ _ _ _ hni HNL.out).mono ?_; rintro e w4 ⟨rfl, hG4⟩; rw [hIN]))
    have ga := (hG2.t hG3).t hG4
    have g4 := g0.t ga
    have b4 := b0.keep ga
    clear m0 m1 m2 l0 hG2 hG3 hG4 ga g0 b0 HVA HNA HNL hIN hni
    have m0 := b4.cell 0
    have m1 := b4.cell 1
    have m2 := b4.cell 2
    have l0 := b4.lt
    go_upto_region 4 with (go_at_call 25; refine (HC1.out _ g4).mono ?_; rintro e w5 ⟨hG5, rfl⟩)
    have bS := Blk.new w5 62 #[.int .i64 lo, .int .i64 hi]
    have g5 := hG5.a (.cells #[.int .i64 lo, .int .i64 hi] 62)
    clear m0 m1 m2 l0
    obtain ⟨K1, hK1⟩ : ∃ K1, K1 = w5.heap.size := ⟨_, rfl⟩
    change Code.wp _ _ _ _ (w5.alloc (.cells #[.int .i64 lo, .int .i64 hi] 62))
    rw [← hK1] at bS ⊢
    clear hK1 hG5
    generalize w5.alloc (.cells #[.int .i64 lo, .int .i64 hi] 62) = w6 at *
    have b6 := b4.keep g5
    have g6 := g4.t g5
    have m0 := b6.cell 0
    have m1 := b6.cell 1
    have m2 := b6.cell 2
    have l0 := b6.lt
    go_upto_region 5 with (go_at_call 29; refine (HC2.out _ g6).mono ?_; rintro e w7 ⟨hG7, a1, c1, a2, c2, SS, MM, rfl, hi1, hi2, hf1⟩)
    clear m0 m1 m2 l0
    have HCF := cas_of (b := b) hf1
    rw [← HLO.out, ← HHI.out, ← HNN.out] at HCF
    have hsl : SS.length + MM.length ≤ r.racers.length := by
      have h1 := hf1.len
      have h2 := runners_len r p
      have h3 : (fuOf r p none 0).rs.length = (runners r p).length := rfl
      omega
    have hwsm : IntKind.i64.wrap ((SS.length : Int) + MM.length) = (SS.length : Int) + MM.length := IntWalk.i64_in _ (by omega)
    have hsm1 : ¬ (r.racers.length : Int) < (SS.length : Int) + MM.length := by omega
    have HI1 := Lib.hid hi1
    have HI2 := Lib.hid hi2
    have b7 := b6.keep hG7
    have bS7 := bS.keep hG7
    have g7 := g6.t hG7
    have HB7 := Lib.hid b7
    have HBS := Lib.hid bS7
    have m0 := b7.cell 0
    have l0 := b7.lt
    obtain ⟨V, hV⟩ : ∃ V : Nat → Int, V = fun j => wonAt (wonL (fuOf r p none 0) (stOf r.protests j)) b := ⟨_, rfl⟩
    obtain ⟨F, hF⟩ : ∃ F : Nat → Bool, F = fun j => inL (firstL (fuOf r p none 0) (stOf r.protests j)) b := ⟨_, rfl⟩
    rw [← hV, ← hF] at HCF
    have HCFH := Lib.hid HCF
    have HV := Lib.hid hV
    have HF := Lib.hid hF
    have hsl1 : SS.length ≤ 12 := by omega
    have hsl2 : MM.length ≤ 12 := by omega
    clear hi1 hi2 hf1 b4 b6 bS b7 bS7 HCF hV hF g4 g5 g6 hG7
    go_upto_region 7 with fail
    clear m0 l0 hwsm hsm1
    go_wp2_with fail
    go_loopw [12, 13, 14, 15, 16] (fun v1 v2 v3 v4 i wr => ∃ (k : Nat) (lw hg al sm : Bool), k ≤ NN ∧ v1 = .bool lw ∧ v2 = .bool hg ∧ v3 = .bool al ∧ v4 = .bool sm ∧ i = .int .i64 k ∧ Hid (lw = anyU (fun j => V j == lo) k) ∧ Hid (hg = anyU (fun j => V j == hi) k) ∧ Hid (al = allU F k) ∧ Hid (sm = anyU F k) ∧ G w7 wr) (fun _ _ _ _ i _ => NN - (intOf i).toNat)
    case atStart => exact ⟨0, false, false, true, false, Nat.zero_le _, rfl, rfl, rfl, rfl, rfl, rfl, rfl, rfl, rfl, G.rf _⟩
    case round =>
      obtain ⟨k, lw, hg, al, sm, hk, rfl, rfl, rfl, rfl, rfl, HLW, HHG, HAL, HSM, hG⟩ := hrel
      obtain ⟨wo, rfl⟩ : ∃ wo, wo = wr := ⟨_, rfl⟩
      have bo := HB7.out.keep hG
      have gwo := g7.t hG
      have m0 := bo.cell 0
      have m1 := bo.cell 1
      have m2 := bo.cell 2
      have l0 := bo.lt
      have hw64 := HW64.out
      by_cases hlt : k < NN
      · have hki : (k : Int) < NN := by omega
        have hge := HCFH.out.ge k hlt
        go_upto_region 12 with (go_at_call 30; refine (HC3.out k _ gwo).mono ?_; rintro e w8 ⟨hG8, o, rfl, her, hep, het, hAT⟩)
        clear m0 m1 m2 l0 hw64
        have bN := Blk.new w8 26 #[.slice o.ra o.racers.length o.rc, .slice o.pa o.pools.length o.pc, .slice none 0 0]
        have g8 := hG8.a (.cells #[.slice o.ra o.racers.length o.rc, .slice o.pa o.pools.length o.pc, .slice none 0 0] 26)
        have g8a : G w8 (w8.alloc (.cells #[.slice o.ra o.racers.length o.rc, .slice o.pa o.pools.length o.pc, .slice none 0 0] 26)) := (G.rf _).a _
        obtain ⟨q1, q2, q3, q4⟩ := case_one (p := p) (b := b) (n := k) (o1 := ⟨o.ra, o.rc, o.racers.map (outS (stOf r.protests k)), o.pa, o.pc, o.pools, none, 0, []⟩) HRB.out her hep het HQB.out rfl rfl rfl
        have hov : (⟨o.ra, o.rc, o.racers.map (outS (stOf r.protests k)), o.pa, o.pc, o.pools, none, 0, []⟩ : Ra).v = #[.slice o.ra o.racers.length o.rc, .slice o.pa o.pools.length o.pc, .slice none 0 0] := by
          unfold Ra.v
          dsimp only
          rw [List.length_map]
          rfl
        have HP1 := Lib.hid (fun (W : World) (hW : G w8 W) => prQ0 _ p W (hAT.keep hW) q1)
        have HP2 := Lib.hid (fun (W : World) (hW : G w8 W) => orQ0 _ p W (hAT.keep hW) q1)
        have hpl : (prizesL (fuOf ⟨o.ra, o.rc, o.racers.map (outS (stOf r.protests k)), o.pa, o.pc, o.pools, none, 0, []⟩ p none 0)).length ≤ 1000 := by
          rw [prizesL_len]
          have h1 := runners_len ⟨o.ra, o.rc, o.racers.map (outS (stOf r.protests k)), o.pa, o.pc, o.pools, none, 0, []⟩ p
          have h2 := hAT.nr
          show (runners _ p).length ≤ 1000
          omega
        rw [hov] at HP1 HP2
        rw [q4] at HP2
        generalize prizesL (fuOf ⟨o.ra, o.rc, o.racers.map (outS (stOf r.protests k)), o.pa, o.pc, o.pools, none, 0, []⟩ p none 0) = AL at *
        have hff := firstL_facts (f := fuOf r p none 0) (st := stOf r.protests k) (runners_uniq HRB.out p)
        have hFk : F k = inL ((orderL (fuOf r p none 0) (stOf r.protests k)).getD 0 []) b := by rw [HF.out]; rfl
        have hVk : V k = wonAt (wonL (fuOf r p none 0) (stOf r.protests k)) b := by rw [HV.out]
        have hfl : (orderL (fuOf r p none 0) (stOf r.protests k)).getD 0 [] = firstL (fuOf r p none 0) (stOf r.protests k) := rfl
        have hg12 : ((orderL (fuOf r p none 0) (stOf r.protests k)).getD 0 []).length ≤ 1000 := by
          rw [hfl]
          have h1 := hff.2.2.2
          have h2 := runners_len r p
          have h3 : (fuOf r p none 0).rs.length = (runners r p).length := rfl
          omega
        rw [← hVk] at q3
        obtain ⟨GL, hGL⟩ : ∃ GL, GL = orderL (fuOf r p none 0) (stOf r.protests k) := ⟨_, rfl⟩
        rw [← hGL] at HP2 hFk hg12
        obtain ⟨⟨z0, z1, z2⟩, hX⟩ : ∃ X, X = pzP AL b := ⟨_, rfl⟩
        rw [← hX] at q3
        dsimp only at q3
        have hz1 : z1 = V k := q3
        have HFD := Lib.hid (fun (a : Option Addr) (c : Nat) (W : World) (hW : RowE Pz.v 3 W a AL) => find_any AL a c b W hW hpl)
        rw [← hX, q2] at HFD
        unfold Pz.v at HFD
        dsimp only at HFD
        have HFK := Lib.hid hFk
        have HZ1 := Lib.hid hz1
        have HG12 := Lib.hid hg12
        have hbd1 : ¬ z1 < lo := by omega
        have hbd2 : ¬ hi < z1 := by omega
        obtain ⟨Kc, hKc⟩ : ∃ Kc, Kc = w8.heap.size := ⟨_, rfl⟩
        change Code.wp _ _ _ _ (w8.alloc (.cells #[.slice o.ra o.racers.length o.rc, .slice o.pa o.pools.length o.pc, .slice none 0 0] 26))
        rw [← hKc] at bN ⊢
        clear hKc her hep het hAT q1 q2 q3 q4 hov hff hFk hVk hfl hg12 hGL hX hz1 hge hG8
        generalize w8.alloc (.cells #[.slice o.ra o.racers.length o.rc, .slice o.pa o.pools.length o.pc, .slice none 0 0] 26) = w9 at *
        have m0 := bN.cell 0
        have m1 := bN.cell 1
        have m2 := bN.cell 2
        have l0 := bN.lt
        go_upto_region 13 with (go_at_call 18; refine (HP1.out _ g8a).mono ?_; rintro e w10 ⟨hG10, a3, c3, rfl, hr3⟩)
        clear m0 m1 m2 l0
        have bN2 := bN.keep hG10
        have m0 := bN2.cell 0
        have m1 := bN2.cell 1
        have m2 := bN2.cell 2
        have l0 := bN2.lt
        go_upto_region 14 with (go_at_call 21; refine (HP2.out _ (g8a.t hG10)).mono ?_; rintro e w11 ⟨hG11, a4, c4, rfl, hgr⟩)
        clear m0 m1 m2 l0
        have HR3 := Lib.hid (hr3.below hG11)
        have HGR := Lib.hid hgr
        clear hr3 hgr bN bN2
        go_upto_region 15 with (go_at_call 23; refine (HFD.out _ _ _ HR3.out).mono ?_; rintro e w12 ⟨hG12, rfl⟩)
        have bP := Blk.new w12 40 #[.int .i64 z0, .int .i64 z1, .int .i64 z2]
        have g12 := hG12.a (.cells #[.int .i64 z0, .int .i64 z1, .int .i64 z2] 40)
        obtain ⟨Kp, hKp⟩ : ∃ Kp, Kp = w12.heap.size := ⟨_, rfl⟩
        change Code.wp _ _ _ _ (w12.alloc (.cells #[.int .i64 z0, .int .i64 z1, .int .i64 z2] 40))
        rw [← hKp] at bP ⊢
        clear hKp hG12
        generalize w12.alloc (.cells #[.int .i64 z0, .int .i64 z1, .int .i64 z2] 40) = w13 at *
        have gA : G wo w13 := (((g8.t hG10).t hG11).t g12)
        have bS13 := (HBS.out.keep hG).keep gA
        have HBP := Lib.hid bP
        have HBS13 := Lib.hid bS13
        have HGR13 := Lib.hid (HGR.out.keep g12)
        have m1 := bP.cell 1
        have l0 := bP.lt
        have n0 := bS13.cell 0
        have n1 := bS13.cell 1
        have ln := bS13.lt
        clear bP bS13 g8 g8a hG10 hG11 g12 HP1 HP2 HFD HR3 HGR bo gwo
        go_upto_region 17 with fail
        clear m1 l0 n0 n1 ln
        have hSk : ∀ W', G w13 W' → (W'.cell? ⟨Kp, 1, none⟩ = some (.int .i64 z1) ∧ Kp < W'.heap.size) ∧ W'.cell? ⟨K1, 0, none⟩ = some (.int .i64 lo) ∧ W'.cell? ⟨K1, 1, none⟩ = some (.int .i64 hi) ∧ K1 < W'.heap.size := fun W' hW => ⟨⟨(HBP.out.keep hW).cell 1, (HBP.out.keep hW).lt⟩, (HBS13.out.keep hW).cell 0, (HBS13.out.keep hW).cell 1, (HBS13.out.keep hW).lt⟩
        by_cases hgl : GL.length = 0
        · have hgi : ¬ (0 : Int) < (GL.length : Int) := by omega
          have hF0 : F k = false := by
            rw [HFK.out, List.length_eq_zero_iff.1 hgl]
            rfl
          have HF0 := Lib.hid hF0
          clear hF0
          go_upto_region 18 with fail
          refine wp_region_Y (S := fun W' => (W'.cell? ⟨Kp, 1, none⟩ = some (.int .i64 z1) ∧ Kp < W'.heap.size) ∧ W'.cell? ⟨K1, 0, none⟩ = some (.int .i64 lo) ∧ W'.cell? ⟨K1, 1, none⟩ = some (.int .i64 hi) ∧ K1 < W'.heap.size) 27 28 rfl (by kernel_rfl) (hSk _ (G.rf _).d) (fun hS => ?_)
          have gd : G w13 w13.drew := (G.rf _).d
          change wpAnyY _ _ opsC7 _ _ 27 28 (blC7 0) _ _
          refine wpAnyY_takeC (v := ?_) [] rC7_0 rC7o_0 (fun _ _ _ h => h) (Or.inl ⟨by kernel_rfl, ?_⟩) hS ?_
          rotate_left
          · intro w' hSw; go_simp; with_reducible rfl
          try simp only [Act.put, List.getElem_toArray, List.getElem_cons_zero, List.getElem_cons_succ, List.setIfInBounds_toArray, List.set_cons_zero, List.set_cons_succ]
          refine wpAnyY_takeC (v := ?_) [] rC7_1 rC7o_1 (fun _ _ _ h => h) (Or.inl ⟨by kernel_rfl, ?_⟩) hS ?_
          rotate_left
          · intro w' hSw; go_simp; with_reducible rfl
          try simp only [Act.put, List.getElem_toArray, List.getElem_cons_zero, List.getElem_cons_succ, List.setIfInBounds_toArray, List.set_cons_zero, List.set_cons_succ]
          refine wpAnyY_takeC (v := (if lw = true then undef else .pointer (some ⟨Kp, 1, none⟩))) [] rC7_2 rC7o_2 (fun _ _ _ h => h) (by cases lw; exact Or.inl ⟨by kernel_rfl, by intro w' hSw; go_simp; all_goals with_reducible rfl⟩; exact Or.inr ⟨by kernel_rfl, rfl⟩) hS ?_
          try simp only [Act.put, List.getElem_toArray, List.getElem_cons_zero, List.getElem_cons_succ, List.setIfInBounds_toArray, List.set_cons_zero, List.set_cons_succ]
          refine wpAnyY_takeC (v := (if lw = true then undef else .int .i64 z1)) [] rC7_3 rC7o_3 (fun _ _ _ h => h) (by cases lw; exact Or.inl ⟨by kernel_rfl, by intro w' hSw; obtain ⟨⟨s0, s1⟩, s2, s3, s4⟩ := hSw; go_simp; all_goals with_reducible rfl⟩; exact Or.inr ⟨by kernel_rfl, rfl⟩) hS ?_
          try simp only [Act.put, List.getElem_toArray, List.getElem_cons_zero, List.getElem_cons_succ, List.setIfInBounds_toArray, List.set_cons_zero, List.set_cons_succ]
          refine wpAnyY_takeC (v := (if lw = true then undef else .pointer (some ⟨K1, 0, none⟩))) [] rC7_4 rC7o_4 (fun _ _ _ h => h) (by cases lw; exact Or.inl ⟨by kernel_rfl, by intro w' hSw; go_simp; all_goals with_reducible rfl⟩; exact Or.inr ⟨by kernel_rfl, rfl⟩) hS ?_
          try simp only [Act.put, List.getElem_toArray, List.getElem_cons_zero, List.getElem_cons_succ, List.setIfInBounds_toArray, List.set_cons_zero, List.set_cons_succ]
          refine wpAnyY_takeC (v := (if lw = true then undef else .int .i64 lo)) [] rC7_5 rC7o_5 (fun _ _ _ h => h) (by cases lw; exact Or.inl ⟨by kernel_rfl, by intro w' hSw; obtain ⟨⟨s0, s1⟩, s2, s3, s4⟩ := hSw; go_simp; all_goals with_reducible rfl⟩; exact Or.inr ⟨by kernel_rfl, rfl⟩) hS ?_
          try simp only [Act.put, List.getElem_toArray, List.getElem_cons_zero, List.getElem_cons_succ, List.setIfInBounds_toArray, List.set_cons_zero, List.set_cons_succ]
          refine wpAnyY_takeC (v := (if lw = true then undef else .bool (z1 == lo))) [] rC7_6 rC7o_6 (fun _ _ _ h => h) (by cases lw; exact Or.inl ⟨by kernel_rfl, by intro w' hSw; go_simp; all_goals with_reducible rfl⟩; exact Or.inr ⟨by kernel_rfl, rfl⟩) hS ?_
          try simp only [Act.put, List.getElem_toArray, List.getElem_cons_zero, List.getElem_cons_succ, List.setIfInBounds_toArray, List.set_cons_zero, List.set_cons_succ]
          refine wpAnyY_takeC (v := .bool (lw || (z1 == lo))) [] rC7_7 rC7o_7 (fun _ _ _ h => h) (by cases lw; exact Or.inl ⟨by kernel_rfl, by intro w' hSw; go_simp; all_goals with_reducible rfl⟩; exact Or.inl ⟨by kernel_rfl, by intro w' hSw; go_simp; all_goals with_reducible rfl⟩) hS ?_
          try simp only [Act.put, List.getElem_toArray, List.getElem_cons_zero, List.getElem_cons_succ, List.setIfInBounds_toArray, List.set_cons_zero, List.set_cons_succ]
          refine wpAnyY_takeC (v := ?_) [] rC7_8 rC7o_8 (fun _ _ _ h => h) (Or.inl ⟨by kernel_rfl, ?_⟩) hS ?_
          rotate_left
          · intro w' hSw; go_simp; with_reducible rfl
          try simp only [Act.put, List.getElem_toArray, List.getElem_cons_zero, List.getElem_cons_succ, List.setIfInBounds_toArray, List.set_cons_zero, List.set_cons_succ]
          refine wpAnyY_takeC (v := ?_) [] rC7_9 rC7o_9 (fun _ _ _ h => h) (Or.inl ⟨by kernel_rfl, ?_⟩) hS ?_
          rotate_left
          · intro w' hSw; go_simp; with_reducible rfl
          try simp only [Act.put, List.getElem_toArray, List.getElem_cons_zero, List.getElem_cons_succ, List.setIfInBounds_toArray, List.set_cons_zero, List.set_cons_succ]
          refine wpAnyY_takeC (v := (if hg = true then undef else .pointer (some ⟨Kp, 1, none⟩))) [] rC7_10 rC7o_10 (fun _ _ _ h => h) (by cases hg; exact Or.inl ⟨by kernel_rfl, by intro w' hSw; go_simp; all_goals with_reducible rfl⟩; exact Or.inr ⟨by kernel_rfl, rfl⟩) hS ?_
          try simp only [Act.put, List.getElem_toArray, List.getElem_cons_zero, List.getElem_cons_succ, List.setIfInBounds_toArray, List.set_cons_zero, List.set_cons_succ]
          refine wpAnyY_takeC (v := (if hg = true then undef else .int .i64 z1)) [] rC7_11 rC7o_11 (fun _ _ _ h => h) (by cases hg; exact Or.inl ⟨by kernel_rfl, by intro w' hSw; obtain ⟨⟨s0, s1⟩, s2, s3, s4⟩ := hSw; go_simp; all_goals with_reducible rfl⟩; exact Or.inr ⟨by kernel_rfl, rfl⟩) hS ?_
          try simp only [Act.put, List.getElem_toArray, List.getElem_cons_zero, List.getElem_cons_succ, List.setIfInBounds_toArray, List.set_cons_zero, List.set_cons_succ]
          refine wpAnyY_takeC (v := (if hg = true then undef else .pointer (some ⟨K1, 1, none⟩))) [] rC7_12 rC7o_12 (fun _ _ _ h => h) (by cases hg; exact Or.inl ⟨by kernel_rfl, by intro w' hSw; go_simp; all_goals with_reducible rfl⟩; exact Or.inr ⟨by kernel_rfl, rfl⟩) hS ?_
          try simp only [Act.put, List.getElem_toArray, List.getElem_cons_zero, List.getElem_cons_succ, List.setIfInBounds_toArray, List.set_cons_zero, List.set_cons_succ]
          refine wpAnyY_takeC (v := (if hg = true then undef else .int .i64 hi)) [] rC7_13 rC7o_13 (fun _ _ _ h => h) (by cases hg; exact Or.inl ⟨by kernel_rfl, by intro w' hSw; obtain ⟨⟨s0, s1⟩, s2, s3, s4⟩ := hSw; go_simp; all_goals with_reducible rfl⟩; exact Or.inr ⟨by kernel_rfl, rfl⟩) hS ?_
          try simp only [Act.put, List.getElem_toArray, List.getElem_cons_zero, List.getElem_cons_succ, List.setIfInBounds_toArray, List.set_cons_zero, List.set_cons_succ]
          refine wpAnyY_takeC (v := (if hg = true then undef else .bool (z1 == hi))) [] rC7_14 rC7o_14 (fun _ _ _ h => h) (by cases hg; exact Or.inl ⟨by kernel_rfl, by intro w' hSw; go_simp; all_goals with_reducible rfl⟩; exact Or.inr ⟨by kernel_rfl, rfl⟩) hS ?_
          try simp only [Act.put, List.getElem_toArray, List.getElem_cons_zero, List.getElem_cons_succ, List.setIfInBounds_toArray, List.set_cons_zero, List.set_cons_succ]
          refine wpAnyY_takeC (v := .bool (hg || (z1 == hi))) [] rC7_15 rC7o_15 (fun _ _ _ h => h) (by cases hg; exact Or.inl ⟨by kernel_rfl, by intro w' hSw; go_simp; all_goals with_reducible rfl⟩; exact Or.inl ⟨by kernel_rfl, by intro w' hSw; go_simp; all_goals with_reducible rfl⟩) hS ?_
          try simp only [Act.put, List.getElem_toArray, List.getElem_cons_zero, List.getElem_cons_succ, List.setIfInBounds_toArray, List.set_cons_zero, List.set_cons_succ]
          refine wpAnyY_takeC (v := ?_) [] rC7_16 rC7o_16 (fun _ _ _ h => h) (Or.inl ⟨by kernel_rfl, ?_⟩) hS ?_
          rotate_left
          · intro w' hSw; go_simp; with_reducible rfl
          try simp only [Act.put, List.getElem_toArray, List.getElem_cons_zero, List.getElem_cons_succ, List.setIfInBounds_toArray, List.set_cons_zero, List.set_cons_succ]
          refine wpAnyY_takeC (v := ?_) [] rC7_17 rC7o_17 (fun _ _ _ h => h) (Or.inl ⟨by kernel_rfl, ?_⟩) hS ?_
          rotate_left
          · intro w' hSw; go_simp; with_reducible rfl
          try simp only [Act.put, List.getElem_toArray, List.getElem_cons_zero, List.getElem_cons_succ, List.setIfInBounds_toArray, List.set_cons_zero, List.set_cons_succ]
          refine wpAnyY_takeC (v := (if al = false then undef else .bool false)) [] rC7_18 rC7o_18 (fun _ _ _ h => h) (by cases al; exact Or.inr ⟨by kernel_rfl, rfl⟩; exact Or.inl ⟨by kernel_rfl, by intro w' hSw; go_simp; all_goals with_reducible rfl⟩) hS ?_
          try simp only [Act.put, List.getElem_toArray, List.getElem_cons_zero, List.getElem_cons_succ, List.setIfInBounds_toArray, List.set_cons_zero, List.set_cons_succ]
          refine wpAnyY_takeC (v := .bool (al && false)) [] rC7_19 rC7o_19 (fun _ _ _ h => h) (by cases al; exact Or.inl ⟨by kernel_rfl, by intro w' hSw; go_simp; all_goals with_reducible rfl⟩; exact Or.inl ⟨by kernel_rfl, by intro w' hSw; go_simp; all_goals with_reducible rfl⟩) hS ?_
          try simp only [Act.put, List.getElem_toArray, List.getElem_cons_zero, List.getElem_cons_succ, List.setIfInBounds_toArray, List.set_cons_zero, List.set_cons_succ]
          refine wpAnyY_takeC (v := ?_) [] rC7_20 rC7o_20 (fun _ _ _ h => h) (Or.inl ⟨by kernel_rfl, ?_⟩) hS ?_
          rotate_left
          · intro w' hSw; go_simp; with_reducible rfl
          try simp only [Act.put, List.getElem_toArray, List.getElem_cons_zero, List.getElem_cons_succ, List.setIfInBounds_toArray, List.set_cons_zero, List.set_cons_succ]
          refine wpAnyY_takeC (v := ?_) [] rC7_21 rC7o_21 (fun _ _ _ h => h) (Or.inl ⟨by kernel_rfl, ?_⟩) hS ?_
          rotate_left
          · intro w' hSw; go_simp; with_reducible rfl
          try simp only [Act.put, List.getElem_toArray, List.getElem_cons_zero, List.getElem_cons_succ, List.setIfInBounds_toArray, List.set_cons_zero, List.set_cons_succ]
          refine wpAnyY_takeC (v := (if sm = true then undef else .bool false)) [] rC7_22 rC7o_22 (fun _ _ _ h => h) (by cases sm; exact Or.inl ⟨by kernel_rfl, by intro w' hSw; go_simp; all_goals with_reducible rfl⟩; exact Or.inr ⟨by kernel_rfl, rfl⟩) hS ?_
          try simp only [Act.put, List.getElem_toArray, List.getElem_cons_zero, List.getElem_cons_succ, List.setIfInBounds_toArray, List.set_cons_zero, List.set_cons_succ]
          refine wpAnyY_takeC (v := .bool (sm || false)) [] rC7_23 rC7o_23 (fun _ _ _ h => h) (by cases sm; exact Or.inl ⟨by kernel_rfl, by intro w' hSw; go_simp; all_goals with_reducible rfl⟩; exact Or.inl ⟨by kernel_rfl, by intro w' hSw; go_simp; all_goals with_reducible rfl⟩) hS ?_
          try simp only [Act.put, List.getElem_toArray, List.getElem_cons_zero, List.getElem_cons_succ, List.setIfInBounds_toArray, List.set_cons_zero, List.set_cons_succ]
          refine wpAnyY_takeC (v := ?_) [] rC7_24 rC7o_24 (fun _ _ _ h => h) (Or.inl ⟨by kernel_rfl, ?_⟩) hS ?_
          rotate_left
          · intro w' hSw; go_simp; with_reducible rfl
          try simp only [Act.put, List.getElem_toArray, List.getElem_cons_zero, List.getElem_cons_succ, List.setIfInBounds_toArray, List.set_cons_zero, List.set_cons_succ]
          refine wpAnyY_takeC (v := ?_) [] rC7_25 rC7o_25 (fun _ _ _ h => h) (Or.inl ⟨by kernel_rfl, ?_⟩) hS ?_
          rotate_left
          · intro w' hSw; go_simp; with_reducible rfl
          try simp only [Act.put, List.getElem_toArray, List.getElem_cons_zero, List.getElem_cons_succ, List.setIfInBounds_toArray, List.set_cons_zero, List.set_cons_succ]
          refine wpAnyY_takeC (v := ?_) [] rC7_26 rC7o_26 (fun _ _ _ h => h) (Or.inl ⟨by kernel_rfl, ?_⟩) hS ?_
          rotate_left
          · intro w' hSw; go_simp; with_reducible rfl
          try simp only [Act.put, List.getElem_toArray, List.getElem_cons_zero, List.getElem_cons_succ, List.setIfInBounds_toArray, List.set_cons_zero, List.set_cons_succ]
          refine wpAnyY_oneW (i := 27) (by kernel_rfl) rC7o_27 (by kernel_rfl) (by kernel_rfl) (fun K27 hK27 => ?_)
          go_simp
          refine hK27.out _ _ ?_
          clear hK27
          try simp only [Act.put, List.getElem_toArray, List.getElem_cons_zero, List.getElem_cons_succ, List.setIfInBounds_toArray, List.set_cons_zero, List.set_cons_succ]
          refine wpAnyY_done (by kernel_rfl) ?_ _
          clear hS hSk
          go_wp2_with fail
          go_roundw
          case rel => exact ⟨k + 1, lw || (z1 == lo), hg || (z1 == hi), false, sm, by omega, rfl, rfl, rfl, rfl, by go_num, by show _ = _; rw [anyU_succ, ← HLW.out, HZ1.out], by show _ = _; rw [anyU_succ, ← HHG.out, HZ1.out], by show _ = _; rw [allU_succ, ← HAL.out, HF0.out, Bool.and_false], by show _ = _; rw [anyU_succ, ← HSM.out, HF0.out, Bool.or_false], (hG.t gA).t gd⟩
          case measure => simp [intOf] <;> omega
        · have hgi : (0 : Int) < (GL.length : Int) := by omega
          obtain ⟨go, ga, gc, hge2, hgo, hcello, hgin⟩ := HGR13.out 0 (by omega)
          obtain ⟨gl, hglx⟩ : ∃ gl, gl = GL.getD 0 [] := ⟨_, rfl⟩
          have hg12 := HG12.out
          have hfk := HFK.out
          rw [← hglx] at hcello hgin hg12 hfk
          have HIN := Lib.hid (In_any gl ga gc b w13 hgin hg12)
          rw [← hfk] at HIN
          clear hglx hfk hg12 HFK HG12 HGR13
          obtain ⟨fi, hfi⟩ : ∃ fi, fi = F k := ⟨_, rfl⟩
          rw [← hfi] at HIN
          have HFI := Lib.hid hfi
          subst hge2
          clear hfi hgin
          have n0 := hcello
          have ln := hgo
          go_upto_region 18 with (go_at_call 28; refine (HIN.out).mono ?_; rintro e w14 ⟨rfl, hG14⟩)
          clear n0 ln hcello hgo HIN
          refine wp_region_Y (S := fun W' => (W'.cell? ⟨Kp, 1, none⟩ = some (.int .i64 z1) ∧ Kp < W'.heap.size) ∧ W'.cell? ⟨K1, 0, none⟩ = some (.int .i64 lo) ∧ W'.cell? ⟨K1, 1, none⟩ = some (.int .i64 hi) ∧ K1 < W'.heap.size) 27 28 rfl (by kernel_rfl) (hSk _ (hG14.d)) (fun hS => ?_)
          have gd : G w14 w14.drew := (G.rf _).d
          change wpAnyY _ _ opsC7 _ _ 27 28 (blC7 0) _ _
          refine wpAnyY_takeC (v := ?_) [] rC7_0 rC7o_0 (fun _ _ _ h => h) (Or.inl ⟨by kernel_rfl, ?_⟩) hS ?_
          rotate_left
          · intro w' hSw; go_simp; with_reducible rfl
          try simp only [Act.put, List.getElem_toArray, List.getElem_cons_zero, List.getElem_cons_succ, List.setIfInBounds_toArray, List.set_cons_zero, List.set_cons_succ]
          refine wpAnyY_takeC (v := ?_) [] rC7_1 rC7o_1 (fun _ _ _ h => h) (Or.inl ⟨by kernel_rfl, ?_⟩) hS ?_
          rotate_left
          · intro w' hSw; go_simp; with_reducible rfl
          try simp only [Act.put, List.getElem_toArray, List.getElem_cons_zero, List.getElem_cons_succ, List.setIfInBounds_toArray, List.set_cons_zero, List.set_cons_succ]
          refine wpAnyY_takeC (v := (if lw = true then undef else .pointer (some ⟨Kp, 1, none⟩))) [] rC7_2 rC7o_2 (fun _ _ _ h => h) (by cases lw; exact Or.inl ⟨by kernel_rfl, by intro w' hSw; go_simp; all_goals with_reducible rfl⟩; exact Or.inr ⟨by kernel_rfl, rfl⟩) hS ?_
          try simp only [Act.put, List.getElem_toArray, List.getElem_cons_zero, List.getElem_cons_succ, List.setIfInBounds_toArray, List.set_cons_zero, List.set_cons_succ]
          refine wpAnyY_takeC (v := (if lw = true then undef else .int .i64 z1)) [] rC7_3 rC7o_3 (fun _ _ _ h => h) (by cases lw; exact Or.inl ⟨by kernel_rfl, by intro w' hSw; obtain ⟨⟨s0, s1⟩, s2, s3, s4⟩ := hSw; go_simp; all_goals with_reducible rfl⟩; exact Or.inr ⟨by kernel_rfl, rfl⟩) hS ?_
          try simp only [Act.put, List.getElem_toArray, List.getElem_cons_zero, List.getElem_cons_succ, List.setIfInBounds_toArray, List.set_cons_zero, List.set_cons_succ]
          refine wpAnyY_takeC (v := (if lw = true then undef else .pointer (some ⟨K1, 0, none⟩))) [] rC7_4 rC7o_4 (fun _ _ _ h => h) (by cases lw; exact Or.inl ⟨by kernel_rfl, by intro w' hSw; go_simp; all_goals with_reducible rfl⟩; exact Or.inr ⟨by kernel_rfl, rfl⟩) hS ?_
          try simp only [Act.put, List.getElem_toArray, List.getElem_cons_zero, List.getElem_cons_succ, List.setIfInBounds_toArray, List.set_cons_zero, List.set_cons_succ]
          refine wpAnyY_takeC (v := (if lw = true then undef else .int .i64 lo)) [] rC7_5 rC7o_5 (fun _ _ _ h => h) (by cases lw; exact Or.inl ⟨by kernel_rfl, by intro w' hSw; obtain ⟨⟨s0, s1⟩, s2, s3, s4⟩ := hSw; go_simp; all_goals with_reducible rfl⟩; exact Or.inr ⟨by kernel_rfl, rfl⟩) hS ?_
          try simp only [Act.put, List.getElem_toArray, List.getElem_cons_zero, List.getElem_cons_succ, List.setIfInBounds_toArray, List.set_cons_zero, List.set_cons_succ]
          refine wpAnyY_takeC (v := (if lw = true then undef else .bool (z1 == lo))) [] rC7_6 rC7o_6 (fun _ _ _ h => h) (by cases lw; exact Or.inl ⟨by kernel_rfl, by intro w' hSw; go_simp; all_goals with_reducible rfl⟩; exact Or.inr ⟨by kernel_rfl, rfl⟩) hS ?_
          try simp only [Act.put, List.getElem_toArray, List.getElem_cons_zero, List.getElem_cons_succ, List.setIfInBounds_toArray, List.set_cons_zero, List.set_cons_succ]
          refine wpAnyY_takeC (v := .bool (lw || (z1 == lo))) [] rC7_7 rC7o_7 (fun _ _ _ h => h) (by cases lw; exact Or.inl ⟨by kernel_rfl, by intro w' hSw; go_simp; all_goals with_reducible rfl⟩; exact Or.inl ⟨by kernel_rfl, by intro w' hSw; go_simp; all_goals with_reducible rfl⟩) hS ?_
          try simp only [Act.put, List.getElem_toArray, List.getElem_cons_zero, List.getElem_cons_succ, List.setIfInBounds_toArray, List.set_cons_zero, List.set_cons_succ]
          refine wpAnyY_takeC (v := ?_) [] rC7_8 rC7o_8 (fun _ _ _ h => h) (Or.inl ⟨by kernel_rfl, ?_⟩) hS ?_
          rotate_left
          · intro w' hSw; go_simp; with_reducible rfl
          try simp only [Act.put, List.getElem_toArray, List.getElem_cons_zero, List.getElem_cons_succ, List.setIfInBounds_toArray, List.set_cons_zero, List.set_cons_succ]
          refine wpAnyY_takeC (v := ?_) [] rC7_9 rC7o_9 (fun _ _ _ h => h) (Or.inl ⟨by kernel_rfl, ?_⟩) hS ?_
          rotate_left
          · intro w' hSw; go_simp; with_reducible rfl
          try simp only [Act.put, List.getElem_toArray, List.getElem_cons_zero, List.getElem_cons_succ, List.setIfInBounds_toArray, List.set_cons_zero, List.set_cons_succ]
          refine wpAnyY_takeC (v := (if hg = true then undef else .pointer (some ⟨Kp, 1, none⟩))) [] rC7_10 rC7o_10 (fun _ _ _ h => h) (by cases hg; exact Or.inl ⟨by kernel_rfl, by intro w' hSw; go_simp; all_goals with_reducible rfl⟩; exact Or.inr ⟨by kernel_rfl, rfl⟩) hS ?_
          try simp only [Act.put, List.getElem_toArray, List.getElem_cons_zero, List.getElem_cons_succ, List.setIfInBounds_toArray, List.set_cons_zero, List.set_cons_succ]
          refine wpAnyY_takeC (v := (if hg = true then undef else .int .i64 z1)) [] rC7_11 rC7o_11 (fun _ _ _ h => h) (by cases hg; exact Or.inl ⟨by kernel_rfl, by intro w' hSw; obtain ⟨⟨s0, s1⟩, s2, s3, s4⟩ := hSw; go_simp; all_goals with_reducible rfl⟩; exact Or.inr ⟨by kernel_rfl, rfl⟩) hS ?_
          try simp only [Act.put, List.getElem_toArray, List.getElem_cons_zero, List.getElem_cons_succ, List.setIfInBounds_toArray, List.set_cons_zero, List.set_cons_succ]
          refine wpAnyY_takeC (v := (if hg = true then undef else .pointer (some ⟨K1, 1, none⟩))) [] rC7_12 rC7o_12 (fun _ _ _ h => h) (by cases hg; exact Or.inl ⟨by kernel_rfl, by intro w' hSw; go_simp; all_goals with_reducible rfl⟩; exact Or.inr ⟨by kernel_rfl, rfl⟩) hS ?_
          try simp only [Act.put, List.getElem_toArray, List.getElem_cons_zero, List.getElem_cons_succ, List.setIfInBounds_toArray, List.set_cons_zero, List.set_cons_succ]
          refine wpAnyY_takeC (v := (if hg = true then undef else .int .i64 hi)) [] rC7_13 rC7o_13 (fun _ _ _ h => h) (by cases hg; exact Or.inl ⟨by kernel_rfl, by intro w' hSw; obtain ⟨⟨s0, s1⟩, s2, s3, s4⟩ := hSw; go_simp; all_goals with_reducible rfl⟩; exact Or.inr ⟨by kernel_rfl, rfl⟩) hS ?_
          try simp only [Act.put, List.getElem_toArray, List.getElem_cons_zero, List.getElem_cons_succ, List.setIfInBounds_toArray, List.set_cons_zero, List.set_cons_succ]
          refine wpAnyY_takeC (v := (if hg = true then undef else .bool (z1 == hi))) [] rC7_14 rC7o_14 (fun _ _ _ h => h) (by cases hg; exact Or.inl ⟨by kernel_rfl, by intro w' hSw; go_simp; all_goals with_reducible rfl⟩; exact Or.inr ⟨by kernel_rfl, rfl⟩) hS ?_
          try simp only [Act.put, List.getElem_toArray, List.getElem_cons_zero, List.getElem_cons_succ, List.setIfInBounds_toArray, List.set_cons_zero, List.set_cons_succ]
          refine wpAnyY_takeC (v := .bool (hg || (z1 == hi))) [] rC7_15 rC7o_15 (fun _ _ _ h => h) (by cases hg; exact Or.inl ⟨by kernel_rfl, by intro w' hSw; go_simp; all_goals with_reducible rfl⟩; exact Or.inl ⟨by kernel_rfl, by intro w' hSw; go_simp; all_goals with_reducible rfl⟩) hS ?_
          try simp only [Act.put, List.getElem_toArray, List.getElem_cons_zero, List.getElem_cons_succ, List.setIfInBounds_toArray, List.set_cons_zero, List.set_cons_succ]
          refine wpAnyY_takeC (v := ?_) [] rC7_16 rC7o_16 (fun _ _ _ h => h) (Or.inl ⟨by kernel_rfl, ?_⟩) hS ?_
          rotate_left
          · intro w' hSw; go_simp; with_reducible rfl
          try simp only [Act.put, List.getElem_toArray, List.getElem_cons_zero, List.getElem_cons_succ, List.setIfInBounds_toArray, List.set_cons_zero, List.set_cons_succ]
          refine wpAnyY_takeC (v := ?_) [] rC7_17 rC7o_17 (fun _ _ _ h => h) (Or.inl ⟨by kernel_rfl, ?_⟩) hS ?_
          rotate_left
          · intro w' hSw; go_simp; with_reducible rfl
          try simp only [Act.put, List.getElem_toArray, List.getElem_cons_zero, List.getElem_cons_succ, List.setIfInBounds_toArray, List.set_cons_zero, List.set_cons_succ]
          refine wpAnyY_takeC (v := (if al = false then undef else .bool fi)) [] rC7_18 rC7o_18 (fun _ _ _ h => h) (by cases al; exact Or.inr ⟨by kernel_rfl, rfl⟩; exact Or.inl ⟨by kernel_rfl, by intro w' hSw; go_simp; all_goals with_reducible rfl⟩) hS ?_
          try simp only [Act.put, List.getElem_toArray, List.getElem_cons_zero, List.getElem_cons_succ, List.setIfInBounds_toArray, List.set_cons_zero, List.set_cons_succ]
          refine wpAnyY_takeC (v := .bool (al && fi)) [] rC7_19 rC7o_19 (fun _ _ _ h => h) (by cases al; exact Or.inl ⟨by kernel_rfl, by intro w' hSw; go_simp; all_goals with_reducible rfl⟩; exact Or.inl ⟨by kernel_rfl, by intro w' hSw; go_simp; all_goals with_reducible rfl⟩) hS ?_
          try simp only [Act.put, List.getElem_toArray, List.getElem_cons_zero, List.getElem_cons_succ, List.setIfInBounds_toArray, List.set_cons_zero, List.set_cons_succ]
          refine wpAnyY_takeC (v := ?_) [] rC7_20 rC7o_20 (fun _ _ _ h => h) (Or.inl ⟨by kernel_rfl, ?_⟩) hS ?_
          rotate_left
          · intro w' hSw; go_simp; with_reducible rfl
          try simp only [Act.put, List.getElem_toArray, List.getElem_cons_zero, List.getElem_cons_succ, List.setIfInBounds_toArray, List.set_cons_zero, List.set_cons_succ]
          refine wpAnyY_takeC (v := ?_) [] rC7_21 rC7o_21 (fun _ _ _ h => h) (Or.inl ⟨by kernel_rfl, ?_⟩) hS ?_
          rotate_left
          · intro w' hSw; go_simp; with_reducible rfl
          try simp only [Act.put, List.getElem_toArray, List.getElem_cons_zero, List.getElem_cons_succ, List.setIfInBounds_toArray, List.set_cons_zero, List.set_cons_succ]
          refine wpAnyY_takeC (v := (if sm = true then undef else .bool fi)) [] rC7_22 rC7o_22 (fun _ _ _ h => h) (by cases sm; exact Or.inl ⟨by kernel_rfl, by intro w' hSw; go_simp; all_goals with_reducible rfl⟩; exact Or.inr ⟨by kernel_rfl, rfl⟩) hS ?_
          try simp only [Act.put, List.getElem_toArray, List.getElem_cons_zero, List.getElem_cons_succ, List.setIfInBounds_toArray, List.set_cons_zero, List.set_cons_succ]
          refine wpAnyY_takeC (v := .bool (sm || fi)) [] rC7_23 rC7o_23 (fun _ _ _ h => h) (by cases sm; exact Or.inl ⟨by kernel_rfl, by intro w' hSw; go_simp; all_goals with_reducible rfl⟩; exact Or.inl ⟨by kernel_rfl, by intro w' hSw; go_simp; all_goals with_reducible rfl⟩) hS ?_
          try simp only [Act.put, List.getElem_toArray, List.getElem_cons_zero, List.getElem_cons_succ, List.setIfInBounds_toArray, List.set_cons_zero, List.set_cons_succ]
          refine wpAnyY_takeC (v := ?_) [] rC7_24 rC7o_24 (fun _ _ _ h => h) (Or.inl ⟨by kernel_rfl, ?_⟩) hS ?_
          rotate_left
          · intro w' hSw; go_simp; with_reducible rfl
          try simp only [Act.put, List.getElem_toArray, List.getElem_cons_zero, List.getElem_cons_succ, List.setIfInBounds_toArray, List.set_cons_zero, List.set_cons_succ]
          refine wpAnyY_takeC (v := ?_) [] rC7_25 rC7o_25 (fun _ _ _ h => h) (Or.inl ⟨by kernel_rfl, ?_⟩) hS ?_
          rotate_left
          · intro w' hSw; go_simp; with_reducible rfl
          try simp only [Act.put, List.getElem_toArray, List.getElem_cons_zero, List.getElem_cons_succ, List.setIfInBounds_toArray, List.set_cons_zero, List.set_cons_succ]
          refine wpAnyY_takeC (v := ?_) [] rC7_26 rC7o_26 (fun _ _ _ h => h) (Or.inl ⟨by kernel_rfl, ?_⟩) hS ?_
          rotate_left
          · intro w' hSw; go_simp; with_reducible rfl
          try simp only [Act.put, List.getElem_toArray, List.getElem_cons_zero, List.getElem_cons_succ, List.setIfInBounds_toArray, List.set_cons_zero, List.set_cons_succ]
          refine wpAnyY_oneW (i := 27) (by kernel_rfl) rC7o_27 (by kernel_rfl) (by kernel_rfl) (fun K27 hK27 => ?_)
          go_simp
          refine hK27.out _ _ ?_
          clear hK27
          try simp only [Act.put, List.getElem_toArray, List.getElem_cons_zero, List.getElem_cons_succ, List.setIfInBounds_toArray, List.set_cons_zero, List.set_cons_succ]
          refine wpAnyY_done (by kernel_rfl) ?_ _
          clear hS hSk
          go_wp2_with fail
          go_roundw
          case rel => exact ⟨k + 1, lw || (z1 == lo), hg || (z1 == hi), al && fi, sm || fi, by omega, rfl, rfl, rfl, rfl, by go_num, by show _ = _; rw [anyU_succ, ← HLW.out, HZ1.out], by show _ = _; rw [anyU_succ, ← HHG.out, HZ1.out], by show _ = _; rw [allU_succ, ← HAL.out, HFI.out], by show _ = _; rw [anyU_succ, ← HSM.out, HFI.out], ((hG.t gA).t hG14).t gd⟩
          case measure => simp [intOf] <;> omega
      · obtain rfl : k = NN := by omega
        have hki : ¬ ((k : Nat) : Int) < k := by omega
        have e1 : lw = true := HLW.out.trans HCFH.out.low
        have e2 : hg = true := HHG.out.trans HCFH.out.high
        subst e1 e2
        have e3 : inL SS b = al := by rw [HAL.out]; exact HCFH.out.all.symm
        have e4 : inL MM b = (sm && !al) := by rw [HAL.out, HSM.out]; exact HCFH.out.some.symm
        have HIS := Lib.hid (fun (W : World) (hW : G w7 W) => In_any SS a1 c1 b W (HI1.out.below hW) (by omega))
        have HIM := Lib.hid (fun (W : World) (hW : G w7 W) => In_any MM a2 c2 b W (HI2.out.below hW) (by omega))
        rw [e3] at HIS
        rw [e4] at HIM
        clear e3 e4 HLW HHG HAL HSM
        cases al <;> cases sm
        all_goals
          go_wp2_with (first | (go_at_call 28; refine (HIS.out _ hG).mono ?_; rintro e w15 ⟨rfl, hG15⟩; clear HIS) | (go_at_call 28; refine (HIM.out _ (hG.t hG15)).mono ?_; rintro e w16 ⟨rfl, hG16⟩) | (go_at_call 15; refine (HWK.out _).mono ?_; rintro e w17 ⟨rfl, hG17⟩))
          have gz := ((gwo.t hG15).t hG16).t hG17
          first | exact ⟨rfl, gz⟩ | (go_ret; exact ⟨rfl, gz⟩)
end Go.Proofs.YtnkmcoljijmgpaaGreat
