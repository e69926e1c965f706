import Derived.Test.YtnkmcoljijmgpaaGreatDc
import Derived.ChangeOld
set_option linter.unusedSimpArgs false
set_option linter.unusedVariables false
namespace Go.Proofs.YtnkmcoljijmgpaaGreat
open Go.RowKit Go.Shelf Go.Sort Go.Maps
attribute [local go_sem] Oper.semAt_some
set_option maxRecDepth 100000 in
set_option maxHeartbeats 8000000 in
theorem OrderLaw (r : Ra) (x0 x1 x2 : Int) (w : World) (h : r.Laid w) (hn : r.Nil) : Calls Tryz.prog 5 #[.agg r.v, .agg #[.int .i64 x0, .int .i64 x1, .int .i64 x2]] w fun e w' => e = .returned (.bool true) ∧ G w w' := by
  have HVA := Lib.hid (fun (W : World) (hW : G w W) => valid8_any r x1 W (h.keep hW))
  have HWK := Lib.hid (fun (W : World) => works_any W)
  have hrv : r.v = #[.slice r.ra r.racers.length r.rc, .slice r.pa r.pools.length r.pc, .slice r.ta r.protests.length r.tc] := rfl
  obtain ⟨W1, hW1⟩ : ∃ W1, W1 = (w.alloc (.cells #[.slice r.ra r.racers.length r.rc, .slice r.pa r.pools.length r.pc, .slice r.ta r.protests.length r.tc] 26)).alloc (.cells #[.int .i64 x0, .int .i64 x1, .int .i64 x2] 57) := ⟨_, rfl⟩
  have g0 : G w W1 := by rw [hW1]; exact ((G.rf _).a _).a _
  have b0 : Blk W1 w.heap.size 26 #[.slice r.ra r.racers.length r.rc, .slice r.pa r.pools.length r.pc, .slice r.ta r.protests.length r.tc] := by rw [hW1]; exact (Blk.new _ _ _).alloc _
  have b1 : Blk W1 (w.heap.size + 1) 57 #[.int .i64 x0, .int .i64 x1, .int .i64 x2] := by rw [hW1]; exact Blk.new1 _ _ _ _
  rw [hrv] at HVA ⊢
  go_enter Tryz.func5, Tryz.ntmps5
  go_upto_region 1 with fail
  change Code.wp _ _ _ _ ((w.alloc (.cells #[.slice r.ra r.racers.length r.rc, .slice r.pa r.pools.length r.pc, .slice r.ta r.protests.length r.tc] 26)).alloc (.cells #[.int .i64 x0, .int .i64 x1, .int .i64 x2] 57))
  rw [← hW1]
  clear hW1
  have m0 := b0.cell 0
  have m1 := b0.cell 1
  have m2 := b0.cell 2
  have l0 := b0.lt
  have n1 := b1.cell 1
  have ln := b1.lt
  cases hVB : valR r x1
  · rw [hVB] at HVA
    clear h hn
    go_wp2_with (first | (go_at_call 20; refine (HVA.out _ g0).mono ?_; rintro e w2 ⟨rfl, hG2⟩) | (go_at_call 15; refine (HWK.out _).mono ?_; rintro e w3 ⟨rfl, hG3⟩))
    have gz := (g0.t hG2).t hG3
    first | exact ⟨rfl, gz⟩ | (go_ret; exact ⟨rfl, gz⟩)
  · rw [hVB] at HVA
    by_cases hx0 : x0 < 0
    · clear h hn hVB
      go_wp2_with (first | (go_at_call 20; refine (HVA.out _ g0).mono ?_; rintro e w2 ⟨rfl, hG2⟩; have q0 := (b1.keep hG2).cell 0; have lq := (b1.keep hG2).lt) | (go_at_call 15; refine (HWK.out _).mono ?_; rintro e w3 ⟨rfl, hG3⟩))
      have gz := (g0.t hG2).t hG3
      first | exact ⟨rfl, gz⟩ | (go_ret; exact ⟨rfl, gz⟩)
    by_cases hx100 : 100 < x0
    · clear h hn hVB
      go_wp2_with (first | (go_at_call 20; refine (HVA.out _ g0).mono ?_; rintro e w2 ⟨rfl, hG2⟩; have q0 := (b1.keep hG2).cell 0; have lq := (b1.keep hG2).lt) | (go_at_call 15; refine (HWK.out _).mono ?_; rintro e w3 ⟨rfl, hG3⟩))
      have gz := (g0.t hG2).t hG3
      first | exact ⟨rfl, gz⟩ | (go_ret; exact ⟨rfl, gz⟩)
    obtain ⟨t, rfl⟩ : ∃ t : Nat, x0 = (t : Nat) := ⟨x0.toNat, by omega⟩
    have ht100 : t ≤ 100 := by omega
    obtain ⟨hat, hrb, hp0, hpl⟩ := valR_at h hVB
    have hq0 := valR_q hVB
    have h12 := (uniq_of (race_parts hrb)).1
    have HAT := Lib.hid hat
    have HRB := Lib.hid hrb
    have HQ0 := Lib.hid hq0
    have HCP := Lib.hid (fun (W : World) (hW : G w W) => (show Calls Tryz.prog 24 #[.agg r.v] W (fun e w' => G W w' ∧ ∃ o : Ra, e = .returned (.agg #[.slice o.ra o.racers.length o.rc, .slice o.pa o.pools.length o.pc, .slice o.ta o.protests.length o.tc]) ∧ CpIs w' W.heap.size r o) from Copy_any r W (hat.keep hW) hn))
    have HC1 := Lib.hid (fun (W : World) (hW : G w W) => prQ0 r x1 W (hat.keep hW) hq0)
    have HC3 := Lib.hid (fun (W : World) (hW : G w W) => purC r W (hat.keep hW) hrb)
    have HC5 := Lib.hid (fun (W : World) (hW : G w W) => canC r x1 x2 W (hat.keep hW))
    rw [hrv] at HCP HC1 HC3 HC5
    have HROW := Lib.hid hat.rs.row
    clear h hn hVB hat hrb hq0 hrv hp0 hpl
    go_upto_region 4 with (first | (go_at_call 20; refine (HVA.out _ g0).mono ?_; rintro e w2 ⟨rfl, hG2⟩; have q0 := (b1.keep hG2).cell 0; have lq := (b1.keep hG2).lt; have b02 := b0.keep hG2; have b12 := b1.keep hG2; have g2 := g0.t hG2; clear m0 m1 m2 l0 n1 ln; have m0 := b02.cell 0; have m1 := b02.cell 1; have m2 := b02.cell 2; have l0 := b02.lt) | (go_at_call 24; refine (HCP.out _ g2).mono ?_; rintro e w3 ⟨hG3, o, rfl, hCP⟩))
    have hlo : o.racers.length = r.racers.length := by
      have e := congrArg List.length hCP.er
      simpa using e
    have hBz : w.heap.size + 1 < w2.heap.size := b12.lt
    have g3 := g2.t hG3
    have b03 := (b02.keep hG3).alloc (.cells #[.slice o.ra o.racers.length o.rc, .slice o.pa o.pools.length o.pc, .slice o.ta o.protests.length o.tc] 26)
    have b13 := (b12.keep hG3).alloc (.cells #[.slice o.ra o.racers.length o.rc, .slice o.pa o.pools.length o.pc, .slice o.ta o.protests.length o.tc] 26)
    have bK : Blk (w3.alloc (.cells #[.slice o.ra o.racers.length o.rc, .slice o.pa o.pools.length o.pc, .slice o.ta o.protests.length o.tc] 26)) w3.heap.size 26 #[.slice o.ra o.racers.length o.rc, .slice o.pa o.pools.length o.pc, .slice o.ta o.protests.length o.tc] := Blk.new _ _ _
    have g4 := g3.a (.cells #[.slice o.ra o.racers.length o.rc, .slice o.pa o.pools.length o.pc, .slice o.ta o.protests.length o.tc] 26)
    have ga3 : G w3 (w3.alloc (.cells #[.slice o.ra o.racers.length o.rc, .slice o.pa o.pools.length o.pc, .slice o.ta o.protests.length o.tc] 26)) := (G.rf _).a _
    have hsz3 : w2.heap.size ≤ w3.heap.size := hG3.size
    have HCR := Lib.hid (own_G hCP.rr ga3)
    have HPR := Lib.hid (own_G hCP.pr ga3)
    have HPT := Lib.hid (fun y hy => own_G (hCP.pt y hy) ga3)
    have HTR := Lib.hid (own_G hCP.tr ga3)
    have HEP := Lib.hid hCP.ep
    have HET := Lib.hid hCP.et
    clear hCP q0 lq m0 m1 m2 l0 hG3 hG2 b02 b12 g2 g3 ga3 HVA HCP b0 b1 g0
    obtain ⟨K, hK⟩ : ∃ K, K = w3.heap.size := ⟨_, rfl⟩
    change Code.wp _ _ _ _ (w3.alloc (.cells #[.slice o.ra o.racers.length o.rc, .slice o.pa o.pools.length o.pc, .slice o.ta o.protests.length o.tc] 26))
    rw [← hK] at bK hsz3 ⊢
    clear hK
    obtain ⟨B, hB⟩ : ∃ B, B = w2.heap.size := ⟨_, rfl⟩
    rw [← hB] at HCR HPR HPT HTR hBz hsz3
    clear hB
    generalize w3.alloc (.cells #[.slice o.ra o.racers.length o.rc, .slice o.pa o.pools.length o.pc, .slice o.ta o.protests.length o.tc] 26) = W4 at *
    have HB0 := Lib.hid b03
    have HB1 := Lib.hid b13
    have HBK := Lib.hid bK
    have HLO := Lib.hid hlo
    clear b03 b13 bK
    have hge : ∀ g, o.ra = some ⟨g, 0, none⟩ → B ≤ g := fun g hg => own_ge HCR.out g (by rw [hg]; rfl)
    have HGE := Lib.hid hge
    have hK26 : ¬ (o.ra = some ⟨K, 0, none⟩) := fun e => own_ne HCR.out HBK.out (by decide) (by rw [e]; rfl)
    have HK26 := Lib.hid hK26
    have hlo2 : o.racers.length ≤ r.racers.length := by omega
    have hlo3 : r.racers.length ≤ o.racers.length := by omega
    clear hge hK26 hlo
    go_wp2_with fail
    go_loopw [6] (fun i wr => ∃ k : Nat, k ≤ r.racers.length ∧ i = .int .i64 k ∧ Hid (wr.ownsRow B 60 5 (.slice o.ra o.racers.length o.rc) o.racers.length (rcV (mixed o.racers r.racers t k))) ∧ Hid (Fr (fun i => o.ra = some ⟨i, 0, none⟩) W4 wr)) (fun i _ => r.racers.length - (intOf i).toNat)
    case atStart => exact ⟨0, Nat.zero_le _, rfl, by show World.ownsRow _ _ _ _ _ _ _; rw [mixed_zero t HLO.out]; exact HCR.out, Fr.rf _ _⟩
    case round =>
      obtain ⟨k, hk, rfl, HRW, HFR⟩ := hrel
      obtain ⟨wo, rfl⟩ : ∃ wo, wo = wr := ⟨_, rfl⟩
      have gwo : G w wo := ((G.fr (R := fun _ => False) g4).t2 HFR.out (fun i hi e => by have := HGE.out i e; omega)).toG (fun _ _ h => h)
      have bo0 := HFR.out.blk HB0.out (fun e => by have := HGE.out _ e; omega)
      have bo1 := HFR.out.blk HB1.out (fun e => by have := HGE.out _ e; omega)
      have boK := HFR.out.blk HBK.out HK26.out
      have m0 := bo0.cell 0
      have l0 := bo0.lt
      by_cases hlt : k < r.racers.length
      · have hki : (k : Int) < r.racers.length := by omega
        have hko : k < o.racers.length := by omega
        have hko2 : (k : Int) < o.racers.length := by omega
        have hnp : 0 < r.racers.length := by omega
        have hnil : ¬ r.racers = [] := fun e => by rw [e] at hnp; simp at hnp
        obtain ⟨m, hm⟩ : ∃ m, m = (k + t) % r.racers.length := ⟨_, rfl⟩
        have hm1 : m < r.racers.length := by rw [hm]; exact Nat.mod_lt _ hnp
        have hm2 : (m : Int) < r.racers.length := by omega
        have hmod : ((k : Int) + (t : Int)).tmod (r.racers.length : Int) = (m : Int) := by
          rw [hm, ← Int.natCast_add, ← Int.ofNat_tmod]
        have hadd : IntKind.i64.wrap ((k : Int) + (t : Int)) = (k : Int) + (t : Int) := IntWalk.i64_in _ (by omega)
        have hwm : IntKind.i64.wrap (m : Int) = (m : Int) := IntWalk.i64_in _ (by omega)
        have HM := Lib.hid hm
        clear hm
        have hrow2 := HROW.out.below gwo
        rcases hrow2 with hx | ⟨gr, ofr, hre, hgr, hcell⟩
        · omega
        have hcl := hcell m hm1
        obtain ⟨y, hy⟩ : ∃ y, y = r.racers.getD m default := ⟨_, rfl⟩
        have HY := Lib.hid hy
        rw [← hy] at hcl
        clear hy hcell
        have hml : (mixed o.racers r.racers t k).length = o.racers.length := by rw [mixed_len]; omega
        have hrw := own_G HRW.out ((G.rf wo).d)
        rw [← hml] at hrw
        obtain ⟨g, cur, hoa, hgB, hblk, hin, hput⟩ := row_put hrw (i := k) (by rw [mixed_len]; exact hlt)
        have HPU := Lib.hid (hput y)
        obtain ⟨zbird, zowner, zrank, zday, zpa, zpc, zpools⟩ := y
        unfold Rc.v at hcl
        have hSk : ∀ W', G wo W' → (W'.cell? ⟨w.heap.size, 0, none⟩ = some (.slice (some ⟨gr, ofr, none⟩) r.racers.length r.rc) ∧ w.heap.size < W'.heap.size) ∧ (W'.cell? ⟨w.heap.size + 1, 0, none⟩ = some (.int .i64 t) ∧ w.heap.size + 1 < W'.heap.size) ∧ (W'.cell? ⟨K, 0, none⟩ = some (.slice (some ⟨g, 0, none⟩) o.racers.length o.rc) ∧ K < W'.heap.size) ∧ W'.cell? ⟨gr, ofr + m * 5, none⟩ = some (.int .i64 zbird) ∧ W'.cell? ⟨gr, ofr + m * 5 + 1, none⟩ = some (.int .i64 zowner) ∧ W'.cell? ⟨gr, ofr + m * 5 + 2, none⟩ = some (.int .i64 zrank) ∧ W'.cell? ⟨gr, ofr + m * 5 + 3, none⟩ = some (.int .i64 zday) ∧ W'.cell? ⟨gr, ofr + m * 5 + 4, none⟩ = some (.slice zpa zpools.length zpc) ∧ gr < W'.heap.size := fun W' hW => by
          refine ⟨⟨?_, (bo0.keep hW).lt⟩, ⟨(bo1.keep hW).cell 0, (bo1.keep hW).lt⟩, ⟨?_, (boK.keep hW).lt⟩, ((bcellB hW).1 gr _ hgr).trans (hcl 0 (by omega)), ((bcellB hW).1 gr _ hgr).trans (hcl 1 (by omega)), ((bcellB hW).1 gr _ hgr).trans (hcl 2 (by omega)), ((bcellB hW).1 gr _ hgr).trans (hcl 3 (by omega)), ((bcellB hW).1 gr _ hgr).trans (hcl 4 (by omega)), Nat.lt_of_lt_of_le hgr hW.size⟩
          · have := (bo0.keep hW).cell 0
            rw [hre] at this
            exact this
          · have := (boK.keep hW).cell 0
            rw [hoa] at this
            exact this
        have HOA := Lib.hid hoa
        have HBL := Lib.hid hblk
        have HSK := Lib.hid hSk
        clear hcl hrw hput hoa hre hml bo0 bo1 boK hblk hSk
        go_upto_region 7 with fail
        refine wp_region_Y (S := fun W' => (W'.cell? ⟨w.heap.size, 0, none⟩ = some (.slice (some ⟨gr, ofr, none⟩) r.racers.length r.rc) ∧ w.heap.size < W'.heap.size) ∧ (W'.cell? ⟨w.heap.size + 1, 0, none⟩ = some (.int .i64 t) ∧ w.heap.size + 1 < W'.heap.size) ∧ (W'.cell? ⟨K, 0, none⟩ = some (.slice (some ⟨g, 0, none⟩) o.racers.length o.rc) ∧ K < W'.heap.size) ∧ W'.cell? ⟨gr, ofr + m * 5, none⟩ = some (.int .i64 zbird) ∧ W'.cell? ⟨gr, ofr + m * 5 + 1, none⟩ = some (.int .i64 zowner) ∧ W'.cell? ⟨gr, ofr + m * 5 + 2, none⟩ = some (.int .i64 zrank) ∧ W'.cell? ⟨gr, ofr + m * 5 + 3, none⟩ = some (.int .i64 zday) ∧ W'.cell? ⟨gr, ofr + m * 5 + 4, none⟩ = some (.slice zpa zpools.length zpc) ∧ gr < W'.heap.size) 16 17 rfl (by kernel_rfl) (HSK.out _ (G.rf _).d) (fun hS => ?_)
        refine wpAnyY_take (i := 0) (v := ?_) rfl (by kernel_rfl) (by kernel_rfl) (by kernel_rfl) (by kernel_rfl) (fun _ _ _ h => h) (Or.inl ⟨by kernel_rfl, ?_⟩) hS ?_
        rotate_left
        · intro w' hSw; obtain ⟨⟨s0, s1⟩, ⟨s2, s3⟩, ⟨s4, s5⟩, y0, y1, y2, y3, y4, s6⟩ := hSw; go_simp; with_reducible rfl
        try simp only [Act.put, List.getElem_toArray, List.getElem_cons_zero, List.getElem_cons_succ, List.setIfInBounds_toArray, List.set_cons_zero, List.set_cons_succ]
        refine wpAnyY_take (i := 1) (v := ?_) rfl (by kernel_rfl) (by kernel_rfl) (by kernel_rfl) (by kernel_rfl) (fun _ _ _ h => h) (Or.inl ⟨by kernel_rfl, ?_⟩) hS ?_
        rotate_left
        · intro w' hSw; obtain ⟨⟨s0, s1⟩, ⟨s2, s3⟩, ⟨s4, s5⟩, y0, y1, y2, y3, y4, s6⟩ := hSw; go_simp; with_reducible rfl
        try simp only [Act.put, List.getElem_toArray, List.getElem_cons_zero, List.getElem_cons_succ, List.setIfInBounds_toArray, List.set_cons_zero, List.set_cons_succ]
        refine wpAnyY_take (i := 2) (v := ?_) rfl (by kernel_rfl) (by kernel_rfl) (by kernel_rfl) (by kernel_rfl) (fun _ _ _ h => h) (Or.inl ⟨by kernel_rfl, ?_⟩) hS ?_
        rotate_left
        · intro w' hSw; obtain ⟨⟨s0, s1⟩, ⟨s2, s3⟩, ⟨s4, s5⟩, y0, y1, y2, y3, y4, s6⟩ := hSw; go_simp; with_reducible rfl
        try simp only [Act.put, List.getElem_toArray, List.getElem_cons_zero, List.getElem_cons_succ, List.setIfInBounds_toArray, List.set_cons_zero, List.set_cons_succ]
        refine wpAnyY_take (i := 3) (v := ?_) rfl (by kernel_rfl) (by kernel_rfl) (by kernel_rfl) (by kernel_rfl) (fun _ _ _ h => h) (Or.inl ⟨by kernel_rfl, ?_⟩) hS ?_
        rotate_left
        · intro w' hSw; obtain ⟨⟨s0, s1⟩, ⟨s2, s3⟩, ⟨s4, s5⟩, y0, y1, y2, y3, y4, s6⟩ := hSw; go_simp; with_reducible rfl
        try simp only [Act.put, List.getElem_toArray, List.getElem_cons_zero, List.getElem_cons_succ, List.setIfInBounds_toArray, List.set_cons_zero, List.set_cons_succ]
        refine wpAnyY_take (i := 4) (v := ?_) rfl (by kernel_rfl) (by kernel_rfl) (by kernel_rfl) (by kernel_rfl) (fun _ _ _ h => h) (Or.inl ⟨by kernel_rfl, ?_⟩) hS ?_
        rotate_left
        · intro w' hSw; obtain ⟨⟨s0, s1⟩, ⟨s2, s3⟩, ⟨s4, s5⟩, y0, y1, y2, y3, y4, s6⟩ := hSw; go_simp; with_reducible rfl
        try simp only [Act.put, List.getElem_toArray, List.getElem_cons_zero, List.getElem_cons_succ, List.setIfInBounds_toArray, List.set_cons_zero, List.set_cons_succ]
        refine wpAnyY_take (i := 5) (v := ?_) rfl (by kernel_rfl) (by kernel_rfl) (by kernel_rfl) (by kernel_rfl) (fun _ _ _ h => h) (Or.inl ⟨by kernel_rfl, ?_⟩) hS ?_
        rotate_left
        · intro w' hSw; obtain ⟨⟨s0, s1⟩, ⟨s2, s3⟩, ⟨s4, s5⟩, y0, y1, y2, y3, y4, s6⟩ := hSw; go_simp; with_reducible rfl
        try simp only [Act.put, List.getElem_toArray, List.getElem_cons_zero, List.getElem_cons_succ, List.setIfInBounds_toArray, List.set_cons_zero, List.set_cons_succ]
        refine wpAnyY_take (i := 6) (v := ?_) rfl (by kernel_rfl) (by kernel_rfl) (by kernel_rfl) (by kernel_rfl) (fun _ _ _ h => h) (Or.inl ⟨by kernel_rfl, ?_⟩) hS ?_
        rotate_left
        · intro w' hSw; obtain ⟨⟨s0, s1⟩, ⟨s2, s3⟩, ⟨s4, s5⟩, y0, y1, y2, y3, y4, s6⟩ := hSw; go_simp; with_reducible rfl
        try simp only [Act.put, List.getElem_toArray, List.getElem_cons_zero, List.getElem_cons_succ, List.setIfInBounds_toArray, List.set_cons_zero, List.set_cons_succ]
        refine wpAnyY_take (i := 7) (v := ?_) rfl (by kernel_rfl) (by kernel_rfl) (by kernel_rfl) (by kernel_rfl) (fun _ _ _ h => h) (Or.inl ⟨by kernel_rfl, ?_⟩) hS ?_
        rotate_left
        · intro w' hSw; obtain ⟨⟨s0, s1⟩, ⟨s2, s3⟩, ⟨s4, s5⟩, y0, y1, y2, y3, y4, s6⟩ := hSw; go_simp; with_reducible rfl
        try simp only [Act.put, List.getElem_toArray, List.getElem_cons_zero, List.getElem_cons_succ, List.setIfInBounds_toArray, List.set_cons_zero, List.set_cons_succ]
        refine wpAnyY_take (i := 8) (v := ?_) rfl (by kernel_rfl) (by kernel_rfl) (by kernel_rfl) (by kernel_rfl) (fun _ _ _ h => h) (Or.inl ⟨by kernel_rfl, ?_⟩) hS ?_
        rotate_left
        · intro w' hSw; obtain ⟨⟨s0, s1⟩, ⟨s2, s3⟩, ⟨s4, s5⟩, y0, y1, y2, y3, y4, s6⟩ := hSw; go_simp; with_reducible rfl
        try simp only [Act.put, List.getElem_toArray, List.getElem_cons_zero, List.getElem_cons_succ, List.setIfInBounds_toArray, List.set_cons_zero, List.set_cons_succ]
        refine wpAnyY_take (i := 9) (v := ?_) rfl (by kernel_rfl) (by kernel_rfl) (by kernel_rfl) (by kernel_rfl) (fun _ _ _ h => h) (Or.inl ⟨by kernel_rfl, ?_⟩) hS ?_
        rotate_left
        · intro w' hSw; obtain ⟨⟨s0, s1⟩, ⟨s2, s3⟩, ⟨s4, s5⟩, y0, y1, y2, y3, y4, s6⟩ := hSw; go_simp; with_reducible rfl
        try simp only [Act.put, List.getElem_toArray, List.getElem_cons_zero, List.getElem_cons_succ, List.setIfInBounds_toArray, List.set_cons_zero, List.set_cons_succ]
        refine wpAnyY_take (i := 10) (v := ?_) rfl (by kernel_rfl) (by kernel_rfl) (by kernel_rfl) (by kernel_rfl) (fun _ _ _ h => h) (Or.inl ⟨by kernel_rfl, ?_⟩) hS ?_
        rotate_left
        · intro w' hSw; obtain ⟨⟨s0, s1⟩, ⟨s2, s3⟩, ⟨s4, s5⟩, y0, y1, y2, y3, y4, s6⟩ := hSw; go_simp; with_reducible rfl
        try simp only [Act.put, List.getElem_toArray, List.getElem_cons_zero, List.getElem_cons_succ, List.setIfInBounds_toArray, List.set_cons_zero, List.set_cons_succ]
        refine wpAnyY_take (i := 11) (v := ?_) rfl (by kernel_rfl) (by kernel_rfl) (by kernel_rfl) (by kernel_rfl) (fun _ _ _ h => h) (Or.inl ⟨by kernel_rfl, ?_⟩) hS ?_
        rotate_left
        · intro w' hSw; obtain ⟨⟨s0, s1⟩, ⟨s2, s3⟩, ⟨s4, s5⟩, y0, y1, y2, y3, y4, s6⟩ := hSw; go_simp; with_reducible rfl
        try simp only [Act.put, List.getElem_toArray, List.getElem_cons_zero, List.getElem_cons_succ, List.setIfInBounds_toArray, List.set_cons_zero, List.set_cons_succ]
        refine wpAnyY_take (i := 12) (v := ?_) rfl (by kernel_rfl) (by kernel_rfl) (by kernel_rfl) (by kernel_rfl) (fun _ _ _ h => h) (Or.inl ⟨by kernel_rfl, ?_⟩) hS ?_
        rotate_left
        · intro w' hSw; obtain ⟨⟨s0, s1⟩, ⟨s2, s3⟩, ⟨s4, s5⟩, y0, y1, y2, y3, y4, s6⟩ := hSw; go_simp; with_reducible rfl
        try simp only [Act.put, List.getElem_toArray, List.getElem_cons_zero, List.getElem_cons_succ, List.setIfInBounds_toArray, List.set_cons_zero, List.set_cons_succ]
        refine wpAnyY_take (i := 13) (v := ?_) rfl (by kernel_rfl) (by kernel_rfl) (by kernel_rfl) (by kernel_rfl) (fun _ _ _ h => h) (Or.inl ⟨by kernel_rfl, ?_⟩) hS ?_
        rotate_left
        · intro w' hSw; obtain ⟨⟨s0, s1⟩, ⟨s2, s3⟩, ⟨s4, s5⟩, y0, y1, y2, y3, y4, s6⟩ := hSw; go_simp; with_reducible rfl
        try simp only [Act.put, List.getElem_toArray, List.getElem_cons_zero, List.getElem_cons_succ, List.setIfInBounds_toArray, List.set_cons_zero, List.set_cons_succ]
        refine wpAnyY_take (i := 14) (v := ?_) rfl (by kernel_rfl) (by kernel_rfl) (by kernel_rfl) (by kernel_rfl) (fun _ _ _ h => h) (Or.inl ⟨by kernel_rfl, ?_⟩) hS ?_
        rotate_left
        · intro w' hSw; obtain ⟨⟨s0, s1⟩, ⟨s2, s3⟩, ⟨s4, s5⟩, y0, y1, y2, y3, y4, s6⟩ := hSw; go_simp; with_reducible rfl
        try simp only [Act.put, List.getElem_toArray, List.getElem_cons_zero, List.getElem_cons_succ, List.setIfInBounds_toArray, List.set_cons_zero, List.set_cons_succ]
        refine wpAnyY_take (i := 15) (v := ?_) rfl (by kernel_rfl) (by kernel_rfl) (by kernel_rfl) (by kernel_rfl) (fun _ _ _ h => h) (Or.inl ⟨by kernel_rfl, ?_⟩) hS ?_
        rotate_left
        · intro w' hSw; obtain ⟨⟨s0, s1⟩, ⟨s2, s3⟩, ⟨s4, s5⟩, y0, y1, y2, y3, y4, s6⟩ := hSw; go_simp; with_reducible rfl
        try simp only [Act.put, List.getElem_toArray, List.getElem_cons_zero, List.getElem_cons_succ, List.setIfInBounds_toArray, List.set_cons_zero, List.set_cons_succ]
        refine wpAnyY_oneW (i := 16) (by kernel_rfl) rfl (by kernel_rfl) (by kernel_rfl) (fun K16 hK16 => ?_)
        refine wp_storeC g (k * 5) 60 (.tmp 59) (.tmp 58) (vs := [.int .i64 zbird, .int .i64 zowner, .int .i64 zrank, .int .i64 zday, .slice zpa zpools.length zpc]) rfl rfl rfl (fun w => size60 w) HBL.out hin (by simp [Value.oneCell']) ?_
        refine hK16.out _ _ ?_
        clear hK16
        try simp only [Act.put, List.getElem_toArray, List.getElem_cons_zero, List.getElem_cons_succ, List.setIfInBounds_toArray, List.set_cons_zero, List.set_cons_succ]
        refine wpAnyY_done (by kernel_rfl) ?_ _
        go_wp2_with fail
        go_roundw
        case rel =>
          refine ⟨k + 1, by omega, by go_num, ?_, Fr_setCells HOA.out _ _ _ (HFR.out.d)⟩
          have := HPU.out
          have e2 : (mixed o.racers r.racers t k).set k ⟨zbird, zowner, zrank, zday, zpa, zpc, zpools⟩ = mixed o.racers r.racers t (k + 1) := by
            rw [HY.out, HM.out]
            exact mixed_succ _ _ _ hlt
          rw [e2, mixed_len] at this
          have e : o.racers.length = r.racers.length := HLO.out
          show World.ownsRow _ _ _ _ _ _ _
          rw [e]
          exact this
        case measure => simp [intOf] <;> omega
      · obtain rfl : k = r.racers.length := by omega
        have hki : ¬ ((r.racers.length : Nat) : Int) < r.racers.length := by omega
        have HRW2 : Hid (wo.ownsRow B 60 5 (.slice o.ra (rot r.racers t).length o.rc) (rot r.racers t).length (rcV (rot r.racers t))) := by
          have := HRW.out
          have e : o.racers.length = (rot r.racers t).length := by rw [HLO.out]; simp [rot]
          rw [mixed_all, e] at this
          exact this
        have e0 : (rot r.racers t).length = o.racers.length := by rw [HLO.out]; simp [rot]
        have hne : ∀ {T z n : Nat} {v : Value} {xs : List Value}, W4.ownsRow B T z v n xs → T ≠ 60 → ∀ g, v.ownBlock = some g → ¬ (o.ra = some ⟨g, 0, none⟩) := fun {T z n v xs} hv hT g hg e => by
          rcases own_own hv HCR.out hT with h | h
          · rw [hg] at h
            cases h
          · exact h (hg.trans (by rw [e]; rfl))
        have hoA := cp_at (o := o) (L := rot r.racers t) (HAT.out.keep gwo) HRW2.out (fun y hy => (rot_perm _ _).mem_iff.1 hy) (by simp [rot]) (own_Fr HPR.out HFR.out (hne HPR.out (by decide))) (fun y hy => own_Fr (HPT.out y hy) HFR.out (hne (HPT.out y hy) (by decide))) (own_Fr HTR.out HFR.out (hne HTR.out (by decide))) HEP.out HET.out
        obtain ⟨hreq, hrb2⟩ := req_perm (o := ⟨o.ra, o.rc, rot r.racers t, o.pa, o.pc, o.pools, o.ta, o.tc, o.protests⟩) HRB.out (rot_perm _ _) HEP.out HET.out
        have HC2 := Lib.hid (fun (W : World) (hW : G wo W) => prQ0 _ x1 W (hoA.keep hW) ((qE_E hreq HRB.out hrb2 x1 []).trans HQ0.out))
        have HC4 := Lib.hid (fun (W : World) (hW : G wo W) => purC _ W (hoA.keep hW) hrb2)
        have HC6 := Lib.hid (fun (W : World) (hW : G wo W) => canC _ x1 x2 W (hoA.keep hW))
        have hov : (⟨o.ra, o.rc, rot r.racers t, o.pa, o.pc, o.pools, o.ta, o.tc, o.protests⟩ : Ra).v = #[.slice o.ra o.racers.length o.rc, .slice o.pa o.pools.length o.pc, .slice o.ta o.protests.length o.tc] := by
          unfold Ra.v
          dsimp only
          rw [e0]
        rw [prizesE hreq x1, hov] at HC2
        rw [pursesE hreq, hov] at HC4
        rw [canE hreq HRB.out hrb2, hov] at HC6
        have hpl : (prizesL (fuOf r x1 none 0)).length ≤ 1000 := by
          rw [prizesL_len]
          have := runners_len r x1
          show (runners r x1).length ≤ 1000
          omega
        have hql := purses_le HRB.out
        generalize prizesL (fuOf r x1 none 0) = PL at *
        generalize pursesL r = QL at *
        generalize canT r x1 x2 = CT at *
        obtain ⟨u0, u1, u2⟩ := CT
        have HO0 := Lib.hid bo0
        have HO1 := Lib.hid bo1
        have HOK := Lib.hid boK
        clear e0 hne hoA hreq hrb2 hov bo0 bo1 boK HRW HRW2 HFR HEP HET HTR HPT HPR HCR m0 l0
        have m0 := (HO0.out.keep (G.rf wo)).cell 0
        have m1 := (HO0.out.keep (G.rf wo)).cell 1
        have m2 := (HO0.out.keep (G.rf wo)).cell 2
        have l0 := (HO0.out.keep (G.rf wo)).lt
        have n0 := (HOK.out.keep (G.rf wo)).cell 0
        have n1 := (HOK.out.keep (G.rf wo)).cell 1
        have n2 := (HOK.out.keep (G.rf wo)).cell 2
        have ln := (HOK.out.keep (G.rf wo)).lt
        have q1 := (HO1.out.keep (G.rf wo)).cell 1
        have q2 := (HO1.out.keep (G.rf wo)).cell 2
        have lq := (HO1.out.keep (G.rf wo)).lt
        go_upto_region 9 with (go_at_call 18; refine (HC1.out _ gwo).mono ?_; rintro e w6 ⟨hG6, a1, c1, rfl, hr1⟩)
        have HR1 := Lib.hid hr1
        have h6 := hG6
        clear m0 m1 m2 l0 n0 n1 n2 ln q1 q2 lq
        clear hr1
        have m0 := (HO0.out.keep h6).cell 0
        have m1 := (HO0.out.keep h6).cell 1
        have m2 := (HO0.out.keep h6).cell 2
        have l0 := (HO0.out.keep h6).lt
        have n0 := (HOK.out.keep h6).cell 0
        have n1 := (HOK.out.keep h6).cell 1
        have n2 := (HOK.out.keep h6).cell 2
        have ln := (HOK.out.keep h6).lt
        have q1 := (HO1.out.keep h6).cell 1
        have q2 := (HO1.out.keep h6).cell 2
        have lq := (HO1.out.keep h6).lt
        go_upto_region 10 with (go_at_call 18; refine (HC2.out _ h6).mono ?_; rintro e w7 ⟨hG7, a2, c2, rfl, hr2⟩)
        have HR2 := Lib.hid hr2
        have h7 := h6.t hG7
        clear m0 m1 m2 l0 n0 n1 n2 ln q1 q2 lq
        clear hr2
        have m0 := (HO0.out.keep h7).cell 0
        have m1 := (HO0.out.keep h7).cell 1
        have m2 := (HO0.out.keep h7).cell 2
        have l0 := (HO0.out.keep h7).lt
        have n0 := (HOK.out.keep h7).cell 0
        have n1 := (HOK.out.keep h7).cell 1
        have n2 := (HOK.out.keep h7).cell 2
        have ln := (HOK.out.keep h7).lt
        have q1 := (HO1.out.keep h7).cell 1
        have q2 := (HO1.out.keep h7).cell 2
        have lq := (HO1.out.keep h7).lt
        go_upto_region 11 with (go_at_call 19; refine (HC3.out _ (gwo.t h7)).mono ?_; rintro e w8 ⟨hG8, a3, c3, rfl, hr3⟩)
        have HR3 := Lib.hid hr3
        have h8 := h7.t hG8
        clear m0 m1 m2 l0 n0 n1 n2 ln q1 q2 lq
        clear hr3
        have m0 := (HO0.out.keep h8).cell 0
        have m1 := (HO0.out.keep h8).cell 1
        have m2 := (HO0.out.keep h8).cell 2
        have l0 := (HO0.out.keep h8).lt
        have n0 := (HOK.out.keep h8).cell 0
        have n1 := (HOK.out.keep h8).cell 1
        have n2 := (HOK.out.keep h8).cell 2
        have ln := (HOK.out.keep h8).lt
        have q1 := (HO1.out.keep h8).cell 1
        have q2 := (HO1.out.keep h8).cell 2
        have lq := (HO1.out.keep h8).lt
        go_upto_region 12 with (go_at_call 19; refine (HC4.out _ h8).mono ?_; rintro e w9 ⟨hG9, a4, c4, rfl, hr4⟩)
        have HR4 := Lib.hid hr4
        have h9 := h8.t hG9
        clear m0 m1 m2 l0 n0 n1 n2 ln q1 q2 lq
        clear hr4
        have m0 := (HO0.out.keep h9).cell 0
        have m1 := (HO0.out.keep h9).cell 1
        have m2 := (HO0.out.keep h9).cell 2
        have l0 := (HO0.out.keep h9).lt
        have n0 := (HOK.out.keep h9).cell 0
        have n1 := (HOK.out.keep h9).cell 1
        have n2 := (HOK.out.keep h9).cell 2
        have ln := (HOK.out.keep h9).lt
        have q1 := (HO1.out.keep h9).cell 1
        have q2 := (HO1.out.keep h9).cell 2
        have lq := (HO1.out.keep h9).lt
        go_upto_region 13 with (go_at_call 25; refine (HC5.out _ (gwo.t h9)).mono ?_; rintro e w10 ⟨hG10, rfl⟩)
        have HBW := Lib.hid (Blk.new w10 62 #[.int .i64 u0, .int .i64 u1])
        have h10 := (h9.t hG10).a (.cells #[.int .i64 u0, .int .i64 u1] 62)
        have hA := hG10.a (.cells #[.int .i64 u0, .int .i64 u1] 62)
        clear m0 m1 m2 l0 n0 n1 n2 ln q1 q2 lq
        obtain ⟨K1, hK1⟩ : ∃ K1, K1 = w10.heap.size := ⟨_, rfl⟩
        change Code.wp _ _ _ _ (w10.alloc (.cells #[.int .i64 u0, .int .i64 u1] 62))
        rw [← hK1] at HBW ⊢
        clear hK1 hG10
        generalize w10.alloc (.cells #[.int .i64 u0, .int .i64 u1] 62) = w11 at *
        have m0 := (HO0.out.keep h10).cell 0
        have m1 := (HO0.out.keep h10).cell 1
        have m2 := (HO0.out.keep h10).cell 2
        have l0 := (HO0.out.keep h10).lt
        have n0 := (HOK.out.keep h10).cell 0
        have n1 := (HOK.out.keep h10).cell 1
        have n2 := (HOK.out.keep h10).cell 2
        have ln := (HOK.out.keep h10).lt
        have q1 := (HO1.out.keep h10).cell 1
        have q2 := (HO1.out.keep h10).cell 2
        have lq := (HO1.out.keep h10).lt
        go_upto_region 14 with (go_at_call 25; refine (HC6.out _ h10).mono ?_; rintro e w12 ⟨hG12, rfl⟩)
        have HBX := Lib.hid (Blk.new w12 62 #[.int .i64 u0, .int .i64 u1])
        have hC := hG12.a (.cells #[.int .i64 u0, .int .i64 u1] 62)
        have h12' := h10.t hC
        clear m0 m1 m2 l0 n0 n1 n2 ln q1 q2 lq
        obtain ⟨K2, hK2⟩ : ∃ K2, K2 = w12.heap.size := ⟨_, rfl⟩
        change Code.wp _ _ _ _ (w12.alloc (.cells #[.int .i64 u0, .int .i64 u1] 62))
        rw [← hK2] at HBX ⊢
        clear hK2 hG12
        generalize w12.alloc (.cells #[.int .i64 u0, .int .i64 u1] 62) = w13 at *
        have HBW2 := Lib.hid (HBW.out.keep hC)
        have gE := gwo.t h12'
        have h9C := hA.t hC
        have HS1 := Lib.hid (same26_any PL a1 a2 c1 c2 w13 (HR1.out.below (((hG7.t hG8).t hG9).t h9C)) (HR2.out.below ((hG8.t hG9).t h9C)) hpl)
        have HS2 := Lib.hid (fun (W : World) (hW : G w13 W) => same27_any QL a3 a4 c3 c4 W ((HR3.out.below (hG9.t h9C)).below hW) ((HR4.out.below h9C).below hW) hql)
        go_wp2_with (first | (go_at_call 26; refine HS1.out.mono ?_; rintro e w14 ⟨rfl, hG14⟩) | (go_at_call 27; refine (HS2.out _ hG14).mono ?_; rintro e w15 ⟨rfl, hG15⟩; have hz := hG14.t hG15; have m0 := (HBW2.out.keep hz).cell 0; have m1 := (HBW2.out.keep hz).cell 1; have l0 := (HBW2.out.keep hz).lt; have n0 := (HBX.out.keep hz).cell 0; have n1 := (HBX.out.keep hz).cell 1; have ln := (HBX.out.keep hz).lt) | (go_at_call 15; refine (HWK.out _).mono ?_; rintro e w16 ⟨rfl, hG16⟩))
        have gz := (gE.t hz).t hG16
        first | exact ⟨rfl, gz⟩ | (go_ret; exact ⟨rfl, gz⟩)
end Go.Proofs.YtnkmcoljijmgpaaGreat
set_option linter.unusedSimpArgs false
set_option linter.unusedVariables false
namespace Go.Proofs.YtnkmcoljijmgpaaGreat
open Go.RowKit Go.Shelf Go.ChangeShapes Go.WideShapes Go.ChangeAt
attribute [local go_sem] Oper.semAt_some
set_option maxRecDepth 100000
theorem k57 : Tryz.prog.cellsOf 57 = 3 := by kernel_rfl
theorem ask57_val {H : Type} {enc : TypeId × Value → H} {w : World} {v : Value} {d : DataW H} {p : List MemPlace} {r : Reach} {b0 : Nat} (hv : Value.okWide Tryz.prog w r b0 57 v) (h : DataW.Trod enc Tryz.prog w 0 (fun _ => true) true 57 v d p) :
    ∃ a b c : Int, v = .agg #[.int .i64 a, .int .i64 b, .int .i64 c] := by
  obtain ⟨cs, rfl, hsz⟩ := okWide_struct Tryz.underlying57 hv
  rw [k57] at hsz
  obtain ⟨l⟩ := cs
  obtain ⟨fuel, hf0⟩ := h
  obtain ⟨xs, n, _, _, hl, hlen, hf⟩ := DataW.trod_struct Tryz.underlying57 hf0
  match l, hsz, xs, hlen with
  | [c0, c1, c2], _, [y0, y1, y2], _ =>
    have h0 := hf 0 _ rfl
    have h1 := hf 1 _ rfl
    have h2 := hf 2 _ rfl
    simp [k3, Value.cells] at h0 h1 h2
    obtain ⟨a0, e0, _, _⟩ := DataW.trod_int Tryz.underlying3 h0
    obtain ⟨a1, e1, _, _⟩ := DataW.trod_int Tryz.underlying3 h1
    obtain ⟨a2, e2, _, _⟩ := DataW.trod_int Tryz.underlying3 h2
    simp at e0 e1 e2
    subst e0 e1 e2
    exact ⟨a0, a1, a2, rfl⟩
end Go.Proofs.YtnkmcoljijmgpaaGreat
