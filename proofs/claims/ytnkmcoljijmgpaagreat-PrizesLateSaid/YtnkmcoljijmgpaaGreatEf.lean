import Derived.Test.YtnkmcoljijmgpaaGreatRe
import Derived.Test.YtnkmcoljijmgpaaGreatDa
set_option linter.unusedSimpArgs false
set_option linter.unusedVariables false
namespace Go.Proofs.YtnkmcoljijmgpaaGreat
open Go.RowKit Go.Shelf Go.Sort Go.Maps
attribute [local go_sem] Oper.semAt_some
/-- the comparison of the two lists of prizes -/
def LateLoop : Nat := 0
set_option maxRecDepth 100000 in
set_option maxHeartbeats 8000000 in
theorem LateLaw (r : Ra) (p b : Int) (w : World) (h : r.Laid w) (hn : r.Nil) : Calls Tryz.prog 6 #[.agg r.v, .int .i64 p, .int .i64 b] w fun e w' => e = .returned (.bool true) ∧ G w w' := by
  have HVA := Lib.hid (fun (W : World) (hW : G w W) => valid8_any r p W (h.keep hW))
  have HWK := Lib.hid (fun (W : World) => works_any W)
  have hrv : r.v = #[.slice r.ra r.racers.length r.rc, .slice r.pa r.pools.length r.pc, .slice r.ta r.protests.length r.tc] := rfl
  obtain ⟨W1, hW1⟩ : ∃ W1, W1 = w.alloc (.cells #[.slice r.ra r.racers.length r.rc, .slice r.pa r.pools.length r.pc, .slice r.ta r.protests.length r.tc] 26) := ⟨_, rfl⟩
  have g0 : G w W1 := by rw [hW1]; exact (G.rf _).a _
  have b0 : Blk W1 w.heap.size 26 #[.slice r.ra r.racers.length r.rc, .slice r.pa r.pools.length r.pc, .slice r.ta r.protests.length r.tc] := by rw [hW1]; exact Blk.new _ _ _
  rw [hrv] at HVA ⊢
  go_enter Tryz.func6, Tryz.ntmps6
  go_upto_region 1 with fail
  change Code.wp _ _ _ _ (w.alloc (.cells #[.slice r.ra r.racers.length r.rc, .slice r.pa r.pools.length r.pc, .slice r.ta r.protests.length r.tc] 26))
  rw [← hW1]
  clear hW1
  have m0 := b0.cell 0
  have m1 := b0.cell 1
  have m2 := b0.cell 2
  have l0 := b0.lt
  cases hVB : valR r p
  · rw [hVB] at HVA
    clear h hn
    go_wp2_with (first | (go_at_call 20; refine (HVA.out _ g0).mono ?_; rintro e w2 ⟨rfl, hG2⟩) | (go_at_call 15; refine (HWK.out _).mono ?_; rintro e w3 ⟨rfl, hG3⟩))
    have gz := (g0.t hG2).t hG3
    first | exact ⟨rfl, gz⟩ | (go_ret; exact ⟨rfl, gz⟩)
  · rw [hVB] at HVA
    obtain ⟨hat, hrb, hp0, hpl⟩ := valR_at h hVB
    have hq0 := valR_q hVB
    have h12 := (uniq_of (race_parts hrb)).1
    have HAT := Lib.hid hat
    have HRB := Lib.hid hrb
    have HQ0 := Lib.hid hq0
    have HCP := Lib.hid (fun (W : World) (hW : G w W) => (show Calls Tryz.prog 24 #[.agg r.v] W (fun e w' => G W w' ∧ ∃ o : Ra, e = .returned (.agg #[.slice o.ra o.racers.length o.rc, .slice o.pa o.pools.length o.pc, .slice o.ta o.protests.length o.tc]) ∧ CpIs w' W.heap.size r o) from Copy_any r W (hat.keep hW) hn))
    have HC1 := Lib.hid (fun (W : World) (hW : G w W) => prQ0 r p W (hat.keep hW) hq0)
    rw [hrv] at HCP HC1
    clear h hn hVB hat hrb hq0 hrv hp0 hpl
    go_upto_region 4 with (first | (go_at_call 20; refine (HVA.out _ g0).mono ?_; rintro e w2 ⟨rfl, hG2⟩; have b02 := b0.keep hG2; have g2 := g0.t hG2; clear m0 m1 m2 l0; have m0 := b02.cell 0; have m1 := b02.cell 1; have m2 := b02.cell 2; have l0 := b02.lt) | (go_at_call 24; refine (HCP.out _ g2).mono ?_; rintro e w3 ⟨hG3, o, rfl, hCP⟩))
    have hlo : o.racers.length = r.racers.length := by
      have e := congrArg List.length hCP.er
      simpa using e
    have hBz : w.heap.size < w2.heap.size := b02.lt
    have g3 := g2.t hG3
    have b03 := (b02.keep hG3).alloc (.cells #[.slice o.ra o.racers.length o.rc, .slice o.pa o.pools.length o.pc, .slice o.ta o.protests.length o.tc] 26)
    have bK : Blk (w3.alloc (.cells #[.slice o.ra o.racers.length o.rc, .slice o.pa o.pools.length o.pc, .slice o.ta o.protests.length o.tc] 26)) w3.heap.size 26 #[.slice o.ra o.racers.length o.rc, .slice o.pa o.pools.length o.pc, .slice o.ta o.protests.length o.tc] := Blk.new _ _ _
    have g4 := g3.a (.cells #[.slice o.ra o.racers.length o.rc, .slice o.pa o.pools.length o.pc, .slice o.ta o.protests.length o.tc] 26)
    have ga3 : G w3 (w3.alloc (.cells #[.slice o.ra o.racers.length o.rc, .slice o.pa o.pools.length o.pc, .slice o.ta o.protests.length o.tc] 26)) := (G.rf _).a _
    have hsz3 : w2.heap.size ≤ w3.heap.size := hG3.size
    have HCR := Lib.hid (own_G hCP.rr ga3)
    have HRP := Lib.hid (fun y hy => own_G (hCP.rp y hy) ga3)
    have HPR := Lib.hid (own_G hCP.pr ga3)
    have HPT := Lib.hid (fun y hy => own_G (hCP.pt y hy) ga3)
    have HTR := Lib.hid (own_G hCP.tr ga3)
    have HER := Lib.hid hCP.er
    have HEP := Lib.hid hCP.ep
    have HET := Lib.hid hCP.et
    clear hCP m0 m1 m2 l0 hG3 hG2 b02 g2 g3 ga3 HVA HCP b0 g0
    obtain ⟨K, hK⟩ : ∃ K, K = w3.heap.size := ⟨_, rfl⟩
    change Code.wp _ _ _ _ (w3.alloc (.cells #[.slice o.ra o.racers.length o.rc, .slice o.pa o.pools.length o.pc, .slice o.ta o.protests.length o.tc] 26))
    rw [← hK] at bK hsz3 ⊢
    clear hK
    obtain ⟨B, hB⟩ : ∃ B, B = w2.heap.size := ⟨_, rfl⟩
    rw [← hB] at HCR HRP HPR HPT HTR hBz hsz3
    clear hB
    generalize w3.alloc (.cells #[.slice o.ra o.racers.length o.rc, .slice o.pa o.pools.length o.pc, .slice o.ta o.protests.length o.tc] 26) = W4 at *
    have HB0 := Lib.hid b03
    have HBK := Lib.hid bK
    have HLO := Lib.hid hlo
    clear b03 bK
    have hge : ∀ g, o.ra = some ⟨g, 0, none⟩ → B ≤ g := fun g hg => own_ge HCR.out g (by rw [hg]; rfl)
    have HGE := Lib.hid hge
    have hK26 : ¬ (o.ra = some ⟨K, 0, none⟩) := fun e => own_ne HCR.out HBK.out (by decide) (by rw [e]; rfl)
    have HK26 := Lib.hid hK26
    have ho12 : o.racers.length ≤ 12 := by omega
    obtain ⟨hreq, horb⟩ := req_copy HRB.out HER.out HEP.out HET.out
    have HRQ := Lib.hid hreq
    have HORB := Lib.hid horb
    have HRD := Lib.hid (racer_day horb)
    have HROW := Lib.hid (own_fn HCR.out).2
    clear hge hK26 hlo hreq horb
    go_wp2_with fail
    go_loopw [8, 9, 10] (fun va vl i wr => ∃ (k : Nat) (x y : Int), k ≤ o.racers.length ∧ va = .int .i64 x ∧ vl = .int .i64 y ∧ i = .int .i64 k ∧ Hid (LAt o.racers b k x y) ∧ G W4 wr) (fun _ _ i _ => o.racers.length - (intOf i).toNat)
    case atStart => exact ⟨0, -1, 0, Nat.zero_le _, rfl, rfl, rfl, LAt.start _ _, G.rf _⟩
    case round =>
      obtain ⟨k, x, y, hk, rfl, rfl, rfl, HLA, hG⟩ := hrel
      obtain ⟨wo, rfl⟩ : ∃ wo, wo = wr := ⟨_, rfl⟩
      have boK := HBK.out.keep hG
      have n0 := boK.cell 0
      have ln := boK.lt
      by_cases hlt : k < o.racers.length
      · have hki : (k : Int) < o.racers.length := by omega
        rcases HROW.out.below hG with hx | ⟨gr, ofr, hre, hgr, hcell⟩
        · omega
        have hcl := hcell k hlt
        have hmem : o.racers.getD k default ∈ o.racers := by
          rw [List.getD_eq_getElem?_getD, List.getElem?_eq_getElem hlt]
          exact List.getElem_mem hlt
        have hrd := HRD.out _ hmem
        rw [hre] at n0
        have n0' : wo.cell? ⟨K, 0, none⟩ = some (.slice (some ⟨gr, ofr, none⟩) o.racers.length o.rc) := n0
        obtain ⟨z, hz⟩ : ∃ z, z = o.racers.getD k default := ⟨_, rfl⟩
        have HZ := Lib.hid hz
        rw [← hz] at hcl hrd
        clear hz hcell n0 hmem hre
        obtain ⟨zbird, zowner, zrank, zday, zpa, zpc, zpools⟩ := z
        unfold Rc.v at hcl
        dsimp only at hrd
        have q0 : wo.cell? ⟨gr, ofr + k * 5, none⟩ = some (.int .i64 zbird) := hcl 0 (by omega)
        have q2 : wo.cell? ⟨gr, ofr + k * 5 + 2, none⟩ = some (.int .i64 zrank) := hcl 2 (by omega)
        have q3 : wo.cell? ⟨gr, ofr + k * 5 + 3, none⟩ = some (.int .i64 zday) := hcl 3 (by omega)
        clear hcl
        obtain ⟨hday, _, hrk⟩ := hrd
        have HRK := Lib.hid hrk
        clear hrk
        have e1 : (o.racers.getD k default).bird = zbird := by rw [← HZ.out]
        have e2 : (o.racers.getD k default).day = zday := by rw [← HZ.out]
        have e3 : (o.racers.getD k default).rank = zrank := by rw [← HZ.out]
        have E1 := Lib.hid e1
        have E2 := Lib.hid e2
        have E3 := Lib.hid e3
        clear e1 e2 e3
        by_cases hb : zbird = b
        · subst hb
          rcases hday with rfl | rfl | rfl
          · go_wp2_with fail
            go_roundw
            case rel => exact ⟨k + 1, k, y, by omega, rfl, rfl, by go_num, HLA.out.hit E1.out E2.out, hG⟩
            case measure => simp [intOf] <;> omega
          · go_wp2_with fail
            go_roundw
            case rel => exact ⟨k + 1, x, y, by omega, rfl, rfl, by go_num, HLA.out.none (fun c => by have := c.2.symm.trans E2.out; omega) (fun c => by have := c.symm.trans E2.out; omega), hG⟩
            case measure => simp [intOf] <;> omega
          · have hmx := fun w => max2 y zrank w
            go_wp2_with fail
            go_roundw
            case rel => exact ⟨k + 1, x, max y zrank, by omega, rfl, rfl, by go_num, by rw [← E3.out]; exact HLA.out.two E2.out (by rw [E3.out]; exact HRK.out), hG⟩
            case measure => simp [intOf] <;> omega
        · have hnb : (zbird == b) = false := by simpa using hb
          have HNB := Lib.hid hb
          clear hb
          rcases hday with rfl | rfl | rfl
          · go_wp2_with fail
            go_roundw
            case rel => exact ⟨k + 1, x, y, by omega, rfl, rfl, by go_num, HLA.out.none (fun c => HNB.out (E1.out.symm.trans c.1)) (fun c => by have := c.symm.trans E2.out; omega), hG⟩
            case measure => simp [intOf] <;> omega
          · go_wp2_with fail
            go_roundw
            case rel => exact ⟨k + 1, x, y, by omega, rfl, rfl, by go_num, HLA.out.none (fun c => HNB.out (E1.out.symm.trans c.1)) (fun c => by have := c.symm.trans E2.out; omega), hG⟩
            case measure => simp [intOf] <;> omega
          · have hmx := fun w => max2 y zrank w
            go_wp2_with fail
            go_roundw
            case rel => exact ⟨k + 1, x, max y zrank, by omega, rfl, rfl, by go_num, by rw [← E3.out]; exact HLA.out.two E2.out (by rw [E3.out]; exact HRK.out), hG⟩
            case measure => simp [intOf] <;> omega
      · obtain rfl : k = o.racers.length := by omega
        have hki : ¬ ((o.racers.length : Nat) : Int) < o.racers.length := by omega
        have gw4 := g4.t hG
        have ha1 := HLA.out.at1
        have hl0 := HLA.out.l0
        have HLE := Lib.hid HLA.out.le
        clear HLA
        rcases ha1 with ⟨rfl, _⟩ | ⟨q, rfl, hq, hq1, hq2⟩
        · go_wp2_with (go_at_call 15; refine (HWK.out _).mono ?_; rintro e w16 ⟨rfl, hG16⟩)
          have gz := gw4.t hG16
          first | exact ⟨rfl, gz⟩ | (go_ret; exact ⟨rfl, gz⟩)
        by_cases h11 : 12 ≤ y
        · have hqn : ¬ (q : Int) < 0 := by omega
          clear hq1 hq2
          go_wp2_with (go_at_call 15; refine (HWK.out _).mono ?_; rintro e w16 ⟨rfl, hG16⟩)
          have gz := gw4.t hG16
          first | exact ⟨rfl, gz⟩ | (go_ret; exact ⟨rfl, gz⟩)
        have hqn : ¬ (q : Int) < 0 := by omega
        have hqi : (q : Int) < o.racers.length := by omega
        have hwy : IntKind.i64.wrap (y + 1) = y + 1 := IntWalk.i64_in _ (by omega)
        have hrw := own_G HCR.out hG
        obtain ⟨g, cur, hoa, hgB, hblk, hin, _⟩ := row_put hrw hq
        obtain ⟨u2, hu2⟩ := Option.isSome_iff_exists.1 (blk_has hblk (i := q * 5 + 2) (by omega))
        have z2 := hblk.frozen (q * 5 + 2)
        have lg := hblk.lt
        have hblk2 := hblk.set_ (q * 5 + 2) (.int .i64 (y + 1))
        obtain ⟨u3, hu3⟩ := Option.isSome_iff_exists.1 (blk_has hblk2 (i := q * 5 + 3) (by rw [Array.size_setIfInBounds]; omega))
        have z3 := hblk2.frozen (q * 5 + 3)
        have hgK : ¬ g = K := fun e => HK26.out (by rw [hoa, e])
        have hSk : ∀ W', G wo W' → W'.cell? ⟨K, 0, none⟩ = some (.slice (some ⟨g, 0, none⟩) o.racers.length o.rc) ∧ K < W'.heap.size := fun W' hW => by
          refine ⟨?_, (boK.keep hW).lt⟩
          have := (boK.keep hW).cell 0
          rw [hoa] at this
          exact this
        have HOA := Lib.hid hoa
        have HRW := Lib.hid hrw
        have HQ1 := Lib.hid hq1
        have HQ2 := Lib.hid hq2
        have HU3 := Lib.hid hu3
        have HZ3 := Lib.hid z3
        have HKK := Lib.hid boK
        clear hoa hrw hq1 hq2 hblk hblk2 boK hu3 z3
        go_upto_region 13 with fail
        clear n0 ln
        refine wp_region_Y (S := fun W' => W'.cell? ⟨K, 0, none⟩ = some (.slice (some ⟨g, 0, none⟩) o.racers.length o.rc) ∧ K < W'.heap.size) 13 14 rfl (by kernel_rfl) (hSk _ (G.rf _).d) (fun hS => ?_)
        refine wpAnyY_take (i := 0) (v := ?_) rfl (by kernel_rfl) (by kernel_rfl) (by kernel_rfl) (by kernel_rfl) (fun _ _ _ h => h) (Or.inl ⟨by kernel_rfl, ?_⟩) hS ?_
        rotate_left
        · intro w' hSw; go_simp; with_reducible rfl
        try simp only [Act.put, List.getElem_toArray, List.getElem_cons_zero, List.getElem_cons_succ, List.setIfInBounds_toArray, List.set_cons_zero, List.set_cons_succ]
        refine wpAnyY_take (i := 1) (v := ?_) rfl (by kernel_rfl) (by kernel_rfl) (by kernel_rfl) (by kernel_rfl) (fun _ _ _ h => h) (Or.inl ⟨by kernel_rfl, ?_⟩) hS ?_
        rotate_left
        · intro w' hSw; obtain ⟨s4, s5⟩ := hSw; go_simp; with_reducible rfl
        try simp only [Act.put, List.getElem_toArray, List.getElem_cons_zero, List.getElem_cons_succ, List.setIfInBounds_toArray, List.set_cons_zero, List.set_cons_succ]
        refine wpAnyY_take (i := 2) (v := ?_) rfl (by kernel_rfl) (by kernel_rfl) (by kernel_rfl) (by kernel_rfl) (fun _ _ _ h => h) (Or.inl ⟨by kernel_rfl, ?_⟩) hS ?_
        rotate_left
        · intro w' hSw; go_simp; with_reducible rfl
        try simp only [Act.put, List.getElem_toArray, List.getElem_cons_zero, List.getElem_cons_succ, List.setIfInBounds_toArray, List.set_cons_zero, List.set_cons_succ]
        refine wpAnyY_take (i := 3) (v := ?_) rfl (by kernel_rfl) (by kernel_rfl) (by kernel_rfl) (by kernel_rfl) (fun _ _ _ h => h) (Or.inl ⟨by kernel_rfl, ?_⟩) hS ?_
        rotate_left
        · intro w' hSw; go_simp; with_reducible rfl
        try simp only [Act.put, List.getElem_toArray, List.getElem_cons_zero, List.getElem_cons_succ, List.setIfInBounds_toArray, List.set_cons_zero, List.set_cons_succ]
        refine wpAnyY_take (i := 4) (v := ?_) rfl (by kernel_rfl) (by kernel_rfl) (by kernel_rfl) (by kernel_rfl) (fun _ _ _ h => h) (Or.inl ⟨by kernel_rfl, ?_⟩) hS ?_
        rotate_left
        · intro w' hSw; obtain ⟨s4, s5⟩ := hSw; go_simp; with_reducible rfl
        try simp only [Act.put, List.getElem_toArray, List.getElem_cons_zero, List.getElem_cons_succ, List.setIfInBounds_toArray, List.set_cons_zero, List.set_cons_succ]
        refine wpAnyY_take (i := 5) (v := ?_) rfl (by kernel_rfl) (by kernel_rfl) (by kernel_rfl) (by kernel_rfl) (fun _ _ _ h => h) (Or.inl ⟨by kernel_rfl, ?_⟩) hS ?_
        rotate_left
        · intro w' hSw; go_simp; with_reducible rfl
        try simp only [Act.put, List.getElem_toArray, List.getElem_cons_zero, List.getElem_cons_succ, List.setIfInBounds_toArray, List.set_cons_zero, List.set_cons_succ]
        refine wpAnyY_take (i := 6) (v := ?_) rfl (by kernel_rfl) (by kernel_rfl) (by kernel_rfl) (by kernel_rfl) (fun _ _ _ h => h) (Or.inl ⟨by kernel_rfl, ?_⟩) hS ?_
        rotate_left
        · intro w' hSw; go_simp; with_reducible rfl
        try simp only [Act.put, List.getElem_toArray, List.getElem_cons_zero, List.getElem_cons_succ, List.setIfInBounds_toArray, List.set_cons_zero, List.set_cons_succ]
        refine wpAnyY_take (i := 7) (v := ?_) rfl (by kernel_rfl) (by kernel_rfl) (by kernel_rfl) (by kernel_rfl) (fun _ _ _ h => h) (Or.inl ⟨by kernel_rfl, ?_⟩) hS ?_
        rotate_left
        · intro w' hSw; go_simp; with_reducible rfl
        try simp only [Act.put, List.getElem_toArray, List.getElem_cons_zero, List.getElem_cons_succ, List.setIfInBounds_toArray, List.set_cons_zero, List.set_cons_succ]
        refine wpAnyY_take (i := 8) (v := ?_) rfl (by kernel_rfl) (by kernel_rfl) (by kernel_rfl) (by kernel_rfl) (fun _ _ _ h => h) (Or.inl ⟨by kernel_rfl, ?_⟩) hS ?_
        rotate_left
        · intro w' hSw; go_simp; with_reducible rfl
        try simp only [Act.put, List.getElem_toArray, List.getElem_cons_zero, List.getElem_cons_succ, List.setIfInBounds_toArray, List.set_cons_zero, List.set_cons_succ]
        refine wpAnyY_take (i := 9) (v := ?_) rfl (by kernel_rfl) (by kernel_rfl) (by kernel_rfl) (by kernel_rfl) (fun _ _ _ h => h) (Or.inl ⟨by kernel_rfl, ?_⟩) hS ?_
        rotate_left
        · intro w' hSw; go_simp; with_reducible rfl
        try simp only [Act.put, List.getElem_toArray, List.getElem_cons_zero, List.getElem_cons_succ, List.setIfInBounds_toArray, List.set_cons_zero, List.set_cons_succ]
        refine wpAnyY_oneSW (i := 10) (by kernel_rfl) rfl (by kernel_rfl) (fun K10 hK10 => ?_)
        go_simp
        have hkf := (HKK.out.far (p := ⟨g, q * 5 + 2, none⟩) (fun e => hgK e.symm) (.int .i64 (y + 1))).dr
        refine hK10.out _ _ ⟨by have := hkf.cell 0; rw [HOA.out] at this; exact this, hkf.lt⟩ (fun hS => ?_)
        clear hK10 hkf hu2 z2
        try simp only [Act.put, List.getElem_toArray, List.getElem_cons_zero, List.getElem_cons_succ, List.setIfInBounds_toArray, List.set_cons_zero, List.set_cons_succ]
        refine wpAnyY_take (i := 11) (v := ?_) rfl (by kernel_rfl) (by kernel_rfl) (by kernel_rfl) (by kernel_rfl) (fun _ _ _ h => h) (Or.inl ⟨by kernel_rfl, ?_⟩) hS ?_
        rotate_left
        · intro w' hSw; go_simp; with_reducible rfl
        try simp only [Act.put, List.getElem_toArray, List.getElem_cons_zero, List.getElem_cons_succ, List.setIfInBounds_toArray, List.set_cons_zero, List.set_cons_succ]
        refine wpAnyY_take (i := 12) (v := ?_) rfl (by kernel_rfl) (by kernel_rfl) (by kernel_rfl) (by kernel_rfl) (fun _ _ _ h => h) (Or.inl ⟨by kernel_rfl, ?_⟩) hS ?_
        rotate_left
        · intro w' hSw; go_simp; with_reducible rfl
        try simp only [Act.put, List.getElem_toArray, List.getElem_cons_zero, List.getElem_cons_succ, List.setIfInBounds_toArray, List.set_cons_zero, List.set_cons_succ]
        have hu3 := HU3.out
        have z3 := HZ3.out
        have lg2 : g < (wo.setCell ⟨g, q * 5 + 2, none⟩ (.int .i64 (y + 1))).heap.size := by rw [World.size_setCell]; exact lg
        refine wpAnyY_oneW (i := 13) (by kernel_rfl) rfl (by kernel_rfl) (by kernel_rfl) (fun K13 hK13 => ?_)
        go_simp
        refine hK13.out _ _ ?_
        clear hK13 hu3 z3 lg2
        try simp only [Act.put, List.getElem_toArray, List.getElem_cons_zero, List.getElem_cons_succ, List.setIfInBounds_toArray, List.set_cons_zero, List.set_cons_succ]
        refine wpAnyY_done (by kernel_rfl) ?_ _
        have hrow5 := late_row (m := y + 1) HRW.out HOA.out hq (uniq_of (race_parts HORB.out)).2 HQ1.out
        have hFR : Fr (fun i => i = g) W4 ((wo.setCell ⟨g, q * 5 + 2, none⟩ (.int .i64 (y + 1))).setCell ⟨g, q * 5 + 3, none⟩ (.int .i64 2)).drew := (((G.fr (R := fun i => i = g) hG).s (p := ⟨g, q * 5 + 2, none⟩) (.inl rfl) _).s (p := ⟨g, q * 5 + 3, none⟩) (.inl rfl) _).d
        obtain ⟨W5, hW5⟩ : ∃ W5, W5 = ((wo.setCell ⟨g, q * 5 + 2, none⟩ (.int .i64 (y + 1))).setCell ⟨g, q * 5 + 3, none⟩ (.int .i64 2)).drew := ⟨_, rfl⟩
        rw [← hW5] at hrow5 hFR ⊢
        clear hW5 hS
        have gw5 : G w W5 := ((G.fr (R := fun _ => False) g4).t2 hFR (fun i hi e => by omega)).toG (fun _ _ h => h)
        have hoA := late_at (b := b) (m := y + 1) (HAT.out.keep gw5) hFR HOA.out HCR.out hrow5 HRP.out HPR.out HPT.out HTR.out HER.out HEP.out HET.out
        obtain ⟨hq1E, hLP⟩ := late_end HRB.out HER.out HEP.out HET.out HQ0.out hq HQ1.out HQ2.out hl0 (by omega) HLE.out
        have hov : (⟨o.ra, o.rc, o.racers.map (lateR b (y + 1)), o.pa, o.pc, o.pools, o.ta, o.tc, o.protests⟩ : Ra).v = #[.slice o.ra o.racers.length o.rc, .slice o.pa o.pools.length o.pc, .slice o.ta o.protests.length o.tc] := by
          unfold Ra.v
          dsimp only
          rw [List.length_map]
        have HC2 := Lib.hid (fun (W : World) (hW : G W5 W) => prQ0 _ p W (hoA.keep hW) hq1E)
        rw [hov] at HC2
        have hAl : (prizesL (fuOf r p none 0)).length ≤ 1000 := by
          rw [prizesL_len]
          have := runners_len r p
          show (runners r p).length ≤ 1000
          omega
        have HO0 := Lib.hid (hFR.blk HB0.out (fun e => by omega))
        have HOK := Lib.hid (hFR.blk HBK.out (fun e => hgK e.symm))
        generalize prizesL (fuOf r p none 0) = AL at *
        generalize prizesL (fuOf ⟨o.ra, o.rc, o.racers.map (lateR b (y + 1)), o.pa, o.pc, o.pools, o.ta, o.tc, o.protests⟩ p none 0) = BL at *
        have HLP := Lib.hid hLP.2
        have hBl := hLP.1
        rw [hBl] at HC2
        have HBL := Lib.hid hBl
        clear hBl
        clear hov hoA hq1E hLP hrow5 hFR hSk HRW HKK HU3 HZ3 HOA HQ1 HQ2 HLE gw4 hG g4 HCR HRP HPR HPT HTR HER HEP HET HB0 HBK HORB HRQ HRD HROW HGE HK26 hwy hqn hqi hin hgB lg hq hl0 h11
        have m0 := (HO0.out.keep (G.rf W5)).cell 0
        have m1 := (HO0.out.keep (G.rf W5)).cell 1
        have m2 := (HO0.out.keep (G.rf W5)).cell 2
        have l0 := (HO0.out.keep (G.rf W5)).lt
        go_upto_region 15 with (go_at_call 18; refine (HC1.out _ gw5).mono ?_; rintro e w6 ⟨hG6, a1, c1, rfl, hr1⟩)
        have HR1 := Lib.hid hr1
        clear m0 m1 m2 l0 hr1
        have n0 := (HOK.out.keep hG6).cell 0
        have n1 := (HOK.out.keep hG6).cell 1
        have n2 := (HOK.out.keep hG6).cell 2
        have ln := (HOK.out.keep hG6).lt
        go_upto_region 16 with (go_at_call 18; refine (HC2.out _ hG6).mono ?_; rintro e w7 ⟨hG7, a2, c2, rfl, hr2⟩)
        clear n0 n1 n2 ln HC1 HC2
        have HR2 := Lib.hid hr2
        clear hr2
        have HRA := Lib.hid (HR1.out.below hG7)
        have gw7 := (gw5.t hG6).t hG7
        go_wp2_with fail
        go_loopw [15] (fun i wr => ∃ k : Nat, k ≤ AL.length ∧ i = .int .i64 k ∧ G w7 wr) (fun i _ => AL.length - (intOf i).toNat)
        case atStart => exact ⟨0, Nat.zero_le _, rfl, G.rf _⟩
        case round =>
          obtain ⟨k, hk, rfl, hG⟩ := hrel
          obtain ⟨wo, rfl⟩ : ∃ wo, wo = wr := ⟨_, rfl⟩
          by_cases hlt : k < AL.length
          · have hki : (k : Int) < AL.length := by omega
            rcases HRA.out.below hG with hx | ⟨g1, o1, rfl, hg1, hc1⟩
            · omega
            rcases HR2.out.below hG with hx | ⟨g2, o2, rfl, hg2, hc2⟩
            · have := HBL.out; omega
            have e1 := hc1 k hlt
            have e2 := hc2 k (by have := HBL.out; omega)
            obtain ⟨z1, z2, z3⟩ := HLP.out k hlt
            generalize AL.getD k default = X at *
            generalize BL.getD k default = Y at *
            obtain ⟨x0, x1, x2⟩ := X
            obtain ⟨y0, y1, y2⟩ := Y
            dsimp only at z1 z2 z3
            subst z1
            unfold Pz.v at e1 e2
            have hSk : ∀ W', G wo W' → (W'.cell? ⟨g1, o1 + k * 3, none⟩ = some (.int .i64 x0) ∧ W'.cell? ⟨g1, o1 + k * 3 + 1, none⟩ = some (.int .i64 x1) ∧ g1 < W'.heap.size) ∧ W'.cell? ⟨g2, o2 + k * 3, none⟩ = some (.int .i64 x0) ∧ W'.cell? ⟨g2, o2 + k * 3 + 1, none⟩ = some (.int .i64 y1) ∧ g2 < W'.heap.size := fun W' hW => ⟨⟨((bcellB hW).1 g1 _ hg1).trans (e1 0 (by omega)), ((bcellB hW).1 g1 _ hg1).trans (e1 1 (by omega)), Nat.lt_of_lt_of_le hg1 hW.size⟩, ((bcellB hW).1 g2 _ hg2).trans (e2 0 (by omega)), ((bcellB hW).1 g2 _ hg2).trans (e2 1 (by omega)), Nat.lt_of_lt_of_le hg2 hW.size⟩
            clear e1 e2 hc1 hc2
            by_cases hb : x0 = b
            · subst hb
              obtain ⟨z4, z5⟩ := z3 rfl
              subst z4
              have hd : decide (y1 < 0) = false := decide_eq_false (by omega)
              clear z2 z3
              go_upto_region 21 with fail
              refine wp_region_Y (S := fun W' => (W'.cell? ⟨g1, o1 + k * 3, none⟩ = some (.int .i64 x0) ∧ W'.cell? ⟨g1, o1 + k * 3 + 1, none⟩ = some (.int .i64 0) ∧ g1 < W'.heap.size) ∧ W'.cell? ⟨g2, o2 + k * 3, none⟩ = some (.int .i64 x0) ∧ W'.cell? ⟨g2, o2 + k * 3 + 1, none⟩ = some (.int .i64 y1) ∧ g2 < W'.heap.size) 57 58 rfl (by kernel_rfl) (hSk _ (G.rf _).d) (fun hS => ?_)
              have ga := (G.rf wo).d
              change wpAnyY _ _ opsL21 _ _ 57 58 #[false, false, false, false, false, false, false, false, false, false, false, false, false, false, false, false, false, false, false, false, false, false, false, false, false, false, false, false, false, false, false, false, false, false, false, false, false, false, false, false, false, false, false, false, false, false, false, false, false, false, false, false, false, false, false, false, false, false] _ _
              refine wpAnyY_takeC (v := ?_) [33, 32, 11, 10, 4, 3, 2] rL21_0 rL21o_0 (fun _ _ _ h => h) (Or.inl ⟨by kernel_rfl, ?_⟩) hS ?_
              rotate_left
              · intro w' hSw; go_simp; with_reducible rfl
              try simp only [Act.put, List.getElem_toArray, List.getElem_cons_zero, List.getElem_cons_succ, List.setIfInBounds_toArray, List.set_cons_zero, List.set_cons_succ]
              refine wpAnyY_takeC (v := ?_) [33, 32, 11, 10, 4, 3, 2] rL21_1 rL21o_1 (fun _ _ _ h => h) (Or.inl ⟨by kernel_rfl, ?_⟩) hS ?_
              rotate_left
              · intro w' hSw; go_simp; with_reducible rfl
              try simp only [Act.put, List.getElem_toArray, List.getElem_cons_zero, List.getElem_cons_succ, List.setIfInBounds_toArray, List.set_cons_zero, List.set_cons_succ]
              refine wpAnyY_takeC (v := ?_) [33, 32, 11, 10, 4, 3] rL21_2 rL21o_2 (fun _ _ _ h => h) (Or.inl ⟨by kernel_rfl, ?_⟩) hS ?_
              rotate_left
              · intro w' hSw; go_simp; with_reducible rfl
              try simp only [Act.put, List.getElem_toArray, List.getElem_cons_zero, List.getElem_cons_succ, List.setIfInBounds_toArray, List.set_cons_zero, List.set_cons_succ]
              refine wpAnyY_takeC (v := ?_) [33, 32, 11, 10, 4] rL21_3 rL21o_3 (fun _ _ _ h => h) (Or.inl ⟨by kernel_rfl, ?_⟩) hS ?_
              rotate_left
              · intro w' hSw; go_simp; with_reducible rfl
              try simp only [Act.put, List.getElem_toArray, List.getElem_cons_zero, List.getElem_cons_succ, List.setIfInBounds_toArray, List.set_cons_zero, List.set_cons_succ]
              refine wpAnyY_takeC (v := ?_) [33, 32, 11, 10] rL21_4 rL21o_4 (fun _ _ _ h => h) (Or.inl ⟨by kernel_rfl, ?_⟩) hS ?_
              rotate_left
              · intro w' hSw; obtain ⟨⟨a0, a1, la⟩, b0, b1, lb⟩ := hSw; go_simp; with_reducible rfl
              try simp only [Act.put, List.getElem_toArray, List.getElem_cons_zero, List.getElem_cons_succ, List.setIfInBounds_toArray, List.set_cons_zero, List.set_cons_succ]
              refine wpAnyY_takeC (v := ?_) [33, 32, 11, 10, 9, 8, 7] rL21_5 rL21o_5 (fun _ _ _ h => h) (Or.inl ⟨by kernel_rfl, ?_⟩) hS ?_
              rotate_left
              · intro w' hSw; go_simp; with_reducible rfl
              try simp only [Act.put, List.getElem_toArray, List.getElem_cons_zero, List.getElem_cons_succ, List.setIfInBounds_toArray, List.set_cons_zero, List.set_cons_succ]
              refine wpAnyY_takeC (v := ?_) [33, 32, 11, 10, 9, 8, 7] rL21_6 rL21o_6 (fun _ _ _ h => h) (Or.inl ⟨by kernel_rfl, ?_⟩) hS ?_
              rotate_left
              · intro w' hSw; go_simp; with_reducible rfl
              try simp only [Act.put, List.getElem_toArray, List.getElem_cons_zero, List.getElem_cons_succ, List.setIfInBounds_toArray, List.set_cons_zero, List.set_cons_succ]
              refine wpAnyY_takeC (v := ?_) [33, 32, 11, 10, 9, 8] rL21_7 rL21o_7 (fun _ _ _ h => h) (Or.inl ⟨by kernel_rfl, ?_⟩) hS ?_
              rotate_left
              · intro w' hSw; go_simp; with_reducible rfl
              try simp only [Act.put, List.getElem_toArray, List.getElem_cons_zero, List.getElem_cons_succ, List.setIfInBounds_toArray, List.set_cons_zero, List.set_cons_succ]
              refine wpAnyY_takeC (v := ?_) [33, 32, 11, 10, 9] rL21_8 rL21o_8 (fun _ _ _ h => h) (Or.inl ⟨by kernel_rfl, ?_⟩) hS ?_
              rotate_left
              · intro w' hSw; go_simp; with_reducible rfl
              try simp only [Act.put, List.getElem_toArray, List.getElem_cons_zero, List.getElem_cons_succ, List.setIfInBounds_toArray, List.set_cons_zero, List.set_cons_succ]
              refine wpAnyY_takeC (v := ?_) [33, 32, 11, 10] rL21_9 rL21o_9 (fun _ _ _ h => h) (Or.inl ⟨by kernel_rfl, ?_⟩) hS ?_
              rotate_left
              · intro w' hSw; obtain ⟨⟨a0, a1, la⟩, b0, b1, lb⟩ := hSw; go_simp; with_reducible rfl
              try simp only [Act.put, List.getElem_toArray, List.getElem_cons_zero, List.getElem_cons_succ, List.setIfInBounds_toArray, List.set_cons_zero, List.set_cons_succ]
              refine wpAnyY_takeC (v := ?_) [33, 32, 11] rL21_10 rL21o_10 (fun _ _ _ h => h) (Or.inl ⟨by kernel_rfl, ?_⟩) hS ?_
              rotate_left
              · intro w' hSw; go_simp; with_reducible rfl
              try simp only [Act.put, List.getElem_toArray, List.getElem_cons_zero, List.getElem_cons_succ, List.setIfInBounds_toArray, List.set_cons_zero, List.set_cons_succ]
              refine wpAnyY_takeC (v := ?_) [33, 32] rL21_11 rL21o_11 (fun _ _ _ h => h) (Or.inl ⟨by kernel_rfl, ?_⟩) hS ?_
              rotate_left
              · intro w' hSw; go_simp; with_reducible rfl
              try simp only [Act.put, List.getElem_toArray, List.getElem_cons_zero, List.getElem_cons_succ, List.setIfInBounds_toArray, List.set_cons_zero, List.set_cons_succ]
              refine wpAnyY_takeC (v := ?_) [33, 19, 18, 16, 15, 14] rL21_12 rL21o_12 (fun _ _ _ h => h) (Or.inl ⟨by kernel_rfl, ?_⟩) hS ?_
              rotate_left
              · intro w' hSw; go_simp; with_reducible rfl
              try simp only [Act.put, List.getElem_toArray, List.getElem_cons_zero, List.getElem_cons_succ, List.setIfInBounds_toArray, List.set_cons_zero, List.set_cons_succ]
              refine wpAnyY_takeC (v := ?_) [33, 19, 18, 16, 15, 14] rL21_13 rL21o_13 (fun _ _ _ h => h) (Or.inl ⟨by kernel_rfl, ?_⟩) hS ?_
              rotate_left
              · intro w' hSw; go_simp; with_reducible rfl
              try simp only [Act.put, List.getElem_toArray, List.getElem_cons_zero, List.getElem_cons_succ, List.setIfInBounds_toArray, List.set_cons_zero, List.set_cons_succ]
              refine wpAnyY_takeC (v := ?_) [33, 19, 18, 16, 15] rL21_14 rL21o_14 (fun _ _ _ h => h) (Or.inl ⟨by kernel_rfl, ?_⟩) hS ?_
              rotate_left
              · intro w' hSw; go_simp; with_reducible rfl
              try simp only [Act.put, List.getElem_toArray, List.getElem_cons_zero, List.getElem_cons_succ, List.setIfInBounds_toArray, List.set_cons_zero, List.set_cons_succ]
              refine wpAnyY_takeC (v := ?_) [33, 19, 18, 16] rL21_15 rL21o_15 (fun _ _ _ h => h) (Or.inl ⟨by kernel_rfl, ?_⟩) hS ?_
              rotate_left
              · intro w' hSw; go_simp; with_reducible rfl
              try simp only [Act.put, List.getElem_toArray, List.getElem_cons_zero, List.getElem_cons_succ, List.setIfInBounds_toArray, List.set_cons_zero, List.set_cons_succ]
              refine wpAnyY_takeC (v := ?_) [33, 19, 18] rL21_16 rL21o_16 (fun _ _ _ h => h) (Or.inl ⟨by kernel_rfl, ?_⟩) hS ?_
              rotate_left
              · intro w' hSw; obtain ⟨⟨a0, a1, la⟩, b0, b1, lb⟩ := hSw; go_simp; with_reducible rfl
              try simp only [Act.put, List.getElem_toArray, List.getElem_cons_zero, List.getElem_cons_succ, List.setIfInBounds_toArray, List.set_cons_zero, List.set_cons_succ]
              refine wpAnyY_takeC (v := ?_) [33, 19, 18] rL21_17 rL21o_17 (fun _ _ _ h => h) (Or.inl ⟨by kernel_rfl, ?_⟩) hS ?_
              rotate_left
              · intro w' hSw; go_simp; with_reducible rfl
              try simp only [Act.put, List.getElem_toArray, List.getElem_cons_zero, List.getElem_cons_succ, List.setIfInBounds_toArray, List.set_cons_zero, List.set_cons_succ]
              refine wpAnyY_takeC (v := ?_) [33, 19] rL21_18 rL21o_18 (fun _ _ _ h => h) (Or.inl ⟨by kernel_rfl, ?_⟩) hS ?_
              rotate_left
              · intro w' hSw; go_simp; with_reducible rfl
              try simp only [Act.put, List.getElem_toArray, List.getElem_cons_zero, List.getElem_cons_succ, List.setIfInBounds_toArray, List.set_cons_zero, List.set_cons_succ]
              refine wpAnyY_takeC (v := ?_) [33] rL21_19 rL21o_19 (fun _ _ _ h => h) (Or.inl ⟨by kernel_rfl, ?_⟩) hS ?_
              rotate_left
              · intro w' hSw; go_simp; with_reducible rfl
              try simp only [Act.put, List.getElem_toArray, List.getElem_cons_zero, List.getElem_cons_succ, List.setIfInBounds_toArray, List.set_cons_zero, List.set_cons_succ]
              refine wpAnyY_takeC (v := undef) [33, 32, 31, 30, 24, 23, 22] rL21_20 rL21o_20 (fun _ _ _ h => h) (Or.inr ⟨by kernel_rfl, rfl⟩) hS ?_
              try simp only [Act.put, List.getElem_toArray, List.getElem_cons_zero, List.getElem_cons_succ, List.setIfInBounds_toArray, List.set_cons_zero, List.set_cons_succ]
              refine wpAnyY_takeC (v := undef) [33, 32, 31, 30, 24, 23, 22] rL21_21 rL21o_21 (fun _ _ _ h => h) (Or.inr ⟨by kernel_rfl, rfl⟩) hS ?_
              try simp only [Act.put, List.getElem_toArray, List.getElem_cons_zero, List.getElem_cons_succ, List.setIfInBounds_toArray, List.set_cons_zero, List.set_cons_succ]
              refine wpAnyY_takeC (v := undef) [33, 32, 31, 30, 24, 23] rL21_22 rL21o_22 (fun _ _ _ h => h) (Or.inr ⟨by kernel_rfl, rfl⟩) hS ?_
              try simp only [Act.put, List.getElem_toArray, List.getElem_cons_zero, List.getElem_cons_succ, List.setIfInBounds_toArray, List.set_cons_zero, List.set_cons_succ]
              refine wpAnyY_takeC (v := undef) [33, 32, 31, 30, 24] rL21_23 rL21o_23 (fun _ _ _ h => h) (Or.inr ⟨by kernel_rfl, rfl⟩) hS ?_
              try simp only [Act.put, List.getElem_toArray, List.getElem_cons_zero, List.getElem_cons_succ, List.setIfInBounds_toArray, List.set_cons_zero, List.set_cons_succ]
              refine wpAnyY_takeC (v := undef) [33, 32, 31, 30] rL21_24 rL21o_24 (fun _ _ _ h => h) (Or.inr ⟨by kernel_rfl, rfl⟩) hS ?_
              try simp only [Act.put, List.getElem_toArray, List.getElem_cons_zero, List.getElem_cons_succ, List.setIfInBounds_toArray, List.set_cons_zero, List.set_cons_succ]
              refine wpAnyY_takeC (v := undef) [33, 32, 31, 30, 29, 28, 27] rL21_25 rL21o_25 (fun _ _ _ h => h) (Or.inr ⟨by kernel_rfl, rfl⟩) hS ?_
              try simp only [Act.put, List.getElem_toArray, List.getElem_cons_zero, List.getElem_cons_succ, List.setIfInBounds_toArray, List.set_cons_zero, List.set_cons_succ]
              refine wpAnyY_takeC (v := undef) [33, 32, 31, 30, 29, 28, 27] rL21_26 rL21o_26 (fun _ _ _ h => h) (Or.inr ⟨by kernel_rfl, rfl⟩) hS ?_
              try simp only [Act.put, List.getElem_toArray, List.getElem_cons_zero, List.getElem_cons_succ, List.setIfInBounds_toArray, List.set_cons_zero, List.set_cons_succ]
              refine wpAnyY_takeC (v := undef) [33, 32, 31, 30, 29, 28] rL21_27 rL21o_27 (fun _ _ _ h => h) (Or.inr ⟨by kernel_rfl, rfl⟩) hS ?_
              try simp only [Act.put, List.getElem_toArray, List.getElem_cons_zero, List.getElem_cons_succ, List.setIfInBounds_toArray, List.set_cons_zero, List.set_cons_succ]
              refine wpAnyY_takeC (v := undef) [33, 32, 31, 30, 29] rL21_28 rL21o_28 (fun _ _ _ h => h) (Or.inr ⟨by kernel_rfl, rfl⟩) hS ?_
              try simp only [Act.put, List.getElem_toArray, List.getElem_cons_zero, List.getElem_cons_succ, List.setIfInBounds_toArray, List.set_cons_zero, List.set_cons_succ]
              refine wpAnyY_takeC (v := undef) [33, 32, 31, 30] rL21_29 rL21o_29 (fun _ _ _ h => h) (Or.inr ⟨by kernel_rfl, rfl⟩) hS ?_
              try simp only [Act.put, List.getElem_toArray, List.getElem_cons_zero, List.getElem_cons_succ, List.setIfInBounds_toArray, List.set_cons_zero, List.set_cons_succ]
              refine wpAnyY_takeC (v := undef) [33, 32, 31] rL21_30 rL21o_30 (fun _ _ _ h => h) (Or.inr ⟨by kernel_rfl, rfl⟩) hS ?_
              try simp only [Act.put, List.getElem_toArray, List.getElem_cons_zero, List.getElem_cons_succ, List.setIfInBounds_toArray, List.set_cons_zero, List.set_cons_succ]
              refine wpAnyY_takeC (v := ?_) [33, 32] rL21_31 rL21o_31 (fun _ _ _ h => h) (Or.inl ⟨by kernel_rfl, ?_⟩) hS ?_
              rotate_left
              · intro w' hSw; go_simp; with_reducible rfl
              try simp only [Act.put, List.getElem_toArray, List.getElem_cons_zero, List.getElem_cons_succ, List.setIfInBounds_toArray, List.set_cons_zero, List.set_cons_succ]
              refine wpAnyY_takeC (v := ?_) [33] rL21_32 rL21o_32 (fun _ _ _ h => h) (Or.inl ⟨by kernel_rfl, ?_⟩) hS ?_
              rotate_left
              · intro w' hSw; go_simp; with_reducible rfl
              try simp only [Act.put, List.getElem_toArray, List.getElem_cons_zero, List.getElem_cons_succ, List.setIfInBounds_toArray, List.set_cons_zero, List.set_cons_succ]
              refine wpAnyY_takeC (v := ?_) [] rL21_33 rL21o_33 (fun _ _ _ h => h) (Or.inl ⟨by kernel_rfl, ?_⟩) hS ?_
              rotate_left
              · intro w' hSw; go_simp; with_reducible rfl
              try simp only [Act.put, List.getElem_toArray, List.getElem_cons_zero, List.getElem_cons_succ, List.setIfInBounds_toArray, List.set_cons_zero, List.set_cons_succ]
              refine wpAnyY_takeC (v := ?_) [56, 41, 40, 38, 37, 36] rL21_34 rL21o_34 (fun _ _ _ h => h) (Or.inl ⟨by kernel_rfl, ?_⟩) hS ?_
              rotate_left
              · intro w' hSw; go_simp; with_reducible rfl
              try simp only [Act.put, List.getElem_toArray, List.getElem_cons_zero, List.getElem_cons_succ, List.setIfInBounds_toArray, List.set_cons_zero, List.set_cons_succ]
              refine wpAnyY_takeC (v := ?_) [56, 41, 40, 38, 37, 36] rL21_35 rL21o_35 (fun _ _ _ h => h) (Or.inl ⟨by kernel_rfl, ?_⟩) hS ?_
              rotate_left
              · intro w' hSw; go_simp; with_reducible rfl
              try simp only [Act.put, List.getElem_toArray, List.getElem_cons_zero, List.getElem_cons_succ, List.setIfInBounds_toArray, List.set_cons_zero, List.set_cons_succ]
              refine wpAnyY_takeC (v := ?_) [56, 41, 40, 38, 37] rL21_36 rL21o_36 (fun _ _ _ h => h) (Or.inl ⟨by kernel_rfl, ?_⟩) hS ?_
              rotate_left
              · intro w' hSw; go_simp; with_reducible rfl
              try simp only [Act.put, List.getElem_toArray, List.getElem_cons_zero, List.getElem_cons_succ, List.setIfInBounds_toArray, List.set_cons_zero, List.set_cons_succ]
              refine wpAnyY_takeC (v := ?_) [56, 41, 40, 38] rL21_37 rL21o_37 (fun _ _ _ h => h) (Or.inl ⟨by kernel_rfl, ?_⟩) hS ?_
              rotate_left
              · intro w' hSw; go_simp; with_reducible rfl
              try simp only [Act.put, List.getElem_toArray, List.getElem_cons_zero, List.getElem_cons_succ, List.setIfInBounds_toArray, List.set_cons_zero, List.set_cons_succ]
              refine wpAnyY_takeC (v := ?_) [56, 41, 40] rL21_38 rL21o_38 (fun _ _ _ h => h) (Or.inl ⟨by kernel_rfl, ?_⟩) hS ?_
              rotate_left
              · intro w' hSw; obtain ⟨⟨a0, a1, la⟩, b0, b1, lb⟩ := hSw; go_simp; with_reducible rfl
              try simp only [Act.put, List.getElem_toArray, List.getElem_cons_zero, List.getElem_cons_succ, List.setIfInBounds_toArray, List.set_cons_zero, List.set_cons_succ]
              refine wpAnyY_takeC (v := ?_) [56, 41, 40] rL21_39 rL21o_39 (fun _ _ _ h => h) (Or.inl ⟨by kernel_rfl, ?_⟩) hS ?_
              rotate_left
              · intro w' hSw; go_simp; with_reducible rfl
              try simp only [Act.put, List.getElem_toArray, List.getElem_cons_zero, List.getElem_cons_succ, List.setIfInBounds_toArray, List.set_cons_zero, List.set_cons_succ]
              refine wpAnyY_takeC (v := ?_) [56, 41] rL21_40 rL21o_40 (fun _ _ _ h => h) (Or.inl ⟨by kernel_rfl, ?_⟩) hS ?_
              rotate_left
              · intro w' hSw; go_simp; with_reducible rfl
              try simp only [Act.put, List.getElem_toArray, List.getElem_cons_zero, List.getElem_cons_succ, List.setIfInBounds_toArray, List.set_cons_zero, List.set_cons_succ]
              refine wpAnyY_takeC (v := ?_) [56] rL21_41 rL21o_41 (fun _ _ _ h => h) (Or.inl ⟨by kernel_rfl, ?_⟩) hS ?_
              rotate_left
              · intro w' hSw; go_simp; with_reducible rfl
              try simp only [Act.put, List.getElem_toArray, List.getElem_cons_zero, List.getElem_cons_succ, List.setIfInBounds_toArray, List.set_cons_zero, List.set_cons_succ]
              refine wpAnyY_takeC (v := ?_) [56, 55, 48, 47, 46, 45, 44] rL21_42 rL21o_42 (fun _ _ _ h => h) (Or.inl ⟨by kernel_rfl, ?_⟩) hS ?_
              rotate_left
              · intro w' hSw; go_simp; with_reducible rfl
              try simp only [Act.put, List.getElem_toArray, List.getElem_cons_zero, List.getElem_cons_succ, List.setIfInBounds_toArray, List.set_cons_zero, List.set_cons_succ]
              refine wpAnyY_takeC (v := ?_) [56, 55, 48, 47, 46, 45, 44] rL21_43 rL21o_43 (fun _ _ _ h => h) (Or.inl ⟨by kernel_rfl, ?_⟩) hS ?_
              rotate_left
              · intro w' hSw; go_simp; with_reducible rfl
              try simp only [Act.put, List.getElem_toArray, List.getElem_cons_zero, List.getElem_cons_succ, List.setIfInBounds_toArray, List.set_cons_zero, List.set_cons_succ]
              refine wpAnyY_takeC (v := ?_) [56, 55, 48, 47, 46, 45] rL21_44 rL21o_44 (fun _ _ _ h => h) (Or.inl ⟨by kernel_rfl, ?_⟩) hS ?_
              rotate_left
              · intro w' hSw; go_simp; with_reducible rfl
              try simp only [Act.put, List.getElem_toArray, List.getElem_cons_zero, List.getElem_cons_succ, List.setIfInBounds_toArray, List.set_cons_zero, List.set_cons_succ]
              refine wpAnyY_takeC (v := ?_) [56, 55, 48, 47, 46] rL21_45 rL21o_45 (fun _ _ _ h => h) (Or.inl ⟨by kernel_rfl, ?_⟩) hS ?_
              rotate_left
              · intro w' hSw; go_simp; with_reducible rfl
              try simp only [Act.put, List.getElem_toArray, List.getElem_cons_zero, List.getElem_cons_succ, List.setIfInBounds_toArray, List.set_cons_zero, List.set_cons_succ]
              refine wpAnyY_takeC (v := ?_) [56, 55, 48, 47] rL21_46 rL21o_46 (fun _ _ _ h => h) (Or.inl ⟨by kernel_rfl, ?_⟩) hS ?_
              rotate_left
              · intro w' hSw; obtain ⟨⟨a0, a1, la⟩, b0, b1, lb⟩ := hSw; go_simp; with_reducible rfl
              try simp only [Act.put, List.getElem_toArray, List.getElem_cons_zero, List.getElem_cons_succ, List.setIfInBounds_toArray, List.set_cons_zero, List.set_cons_succ]
              refine wpAnyY_takeC (v := ?_) [56, 55, 48] rL21_47 rL21o_47 (fun _ _ _ h => h) (Or.inl ⟨by kernel_rfl, ?_⟩) hS ?_
              rotate_left
              · intro w' hSw; go_simp; with_reducible rfl
              try simp only [Act.put, List.getElem_toArray, List.getElem_cons_zero, List.getElem_cons_succ, List.setIfInBounds_toArray, List.set_cons_zero, List.set_cons_succ]
              refine wpAnyY_takeC (v := ?_) [56, 55] rL21_48 rL21o_48 (fun _ _ _ h => h) (Or.inl ⟨by kernel_rfl, ?_⟩) hS ?_
              rotate_left
              · intro w' hSw; go_simp; with_reducible rfl
              try simp only [Act.put, List.getElem_toArray, List.getElem_cons_zero, List.getElem_cons_succ, List.setIfInBounds_toArray, List.set_cons_zero, List.set_cons_succ]
              refine wpAnyY_takeC (v := ?_) [56, 55, 54, 53, 52, 51] rL21_49 rL21o_49 (fun _ _ _ h => h) (Or.inl ⟨by kernel_rfl, ?_⟩) hS ?_
              rotate_left
              · intro w' hSw; go_simp; with_reducible rfl
              try simp only [Act.put, List.getElem_toArray, List.getElem_cons_zero, List.getElem_cons_succ, List.setIfInBounds_toArray, List.set_cons_zero, List.set_cons_succ]
              refine wpAnyY_takeC (v := ?_) [56, 55, 54, 53, 52, 51] rL21_50 rL21o_50 (fun _ _ _ h => h) (Or.inl ⟨by kernel_rfl, ?_⟩) hS ?_
              rotate_left
              · intro w' hSw; go_simp; with_reducible rfl
              try simp only [Act.put, List.getElem_toArray, List.getElem_cons_zero, List.getElem_cons_succ, List.setIfInBounds_toArray, List.set_cons_zero, List.set_cons_succ]
              refine wpAnyY_takeC (v := ?_) [56, 55, 54, 53, 52] rL21_51 rL21o_51 (fun _ _ _ h => h) (Or.inl ⟨by kernel_rfl, ?_⟩) hS ?_
              rotate_left
              · intro w' hSw; go_simp; with_reducible rfl
              try simp only [Act.put, List.getElem_toArray, List.getElem_cons_zero, List.getElem_cons_succ, List.setIfInBounds_toArray, List.set_cons_zero, List.set_cons_succ]
              refine wpAnyY_takeC (v := ?_) [56, 55, 54, 53] rL21_52 rL21o_52 (fun _ _ _ h => h) (Or.inl ⟨by kernel_rfl, ?_⟩) hS ?_
              rotate_left
              · intro w' hSw; go_simp; with_reducible rfl
              try simp only [Act.put, List.getElem_toArray, List.getElem_cons_zero, List.getElem_cons_succ, List.setIfInBounds_toArray, List.set_cons_zero, List.set_cons_succ]
              refine wpAnyY_takeC (v := ?_) [56, 55, 54] rL21_53 rL21o_53 (fun _ _ _ h => h) (Or.inl ⟨by kernel_rfl, ?_⟩) hS ?_
              rotate_left
              · intro w' hSw; obtain ⟨⟨a0, a1, la⟩, b0, b1, lb⟩ := hSw; go_simp; with_reducible rfl
              try simp only [Act.put, List.getElem_toArray, List.getElem_cons_zero, List.getElem_cons_succ, List.setIfInBounds_toArray, List.set_cons_zero, List.set_cons_succ]
              refine wpAnyY_takeC (v := ?_) [56, 55] rL21_54 rL21o_54 (fun _ _ _ h => h) (Or.inl ⟨by kernel_rfl, ?_⟩) hS ?_
              rotate_left
              · intro w' hSw; go_simp; with_reducible rfl
              try simp only [Act.put, List.getElem_toArray, List.getElem_cons_zero, List.getElem_cons_succ, List.setIfInBounds_toArray, List.set_cons_zero, List.set_cons_succ]
              refine wpAnyY_takeC (v := ?_) [56] rL21_55 rL21o_55 (fun _ _ _ h => h) (Or.inl ⟨by kernel_rfl, ?_⟩) hS ?_
              rotate_left
              · intro w' hSw; go_simp; with_reducible rfl
              try simp only [Act.put, List.getElem_toArray, List.getElem_cons_zero, List.getElem_cons_succ, List.setIfInBounds_toArray, List.set_cons_zero, List.set_cons_succ]
              refine wpAnyY_takeC (v := ?_) [] rL21_56 rL21o_56 (fun _ _ _ h => h) (Or.inl ⟨by kernel_rfl, ?_⟩) hS ?_
              rotate_left
              · intro w' hSw; go_simp; with_reducible rfl
              try simp only [Act.put, List.getElem_toArray, List.getElem_cons_zero, List.getElem_cons_succ, List.setIfInBounds_toArray, List.set_cons_zero, List.set_cons_succ]
              refine wpAnyY_oneW (i := 57) (by kernel_rfl) rL21o_57 (by kernel_rfl) (by kernel_rfl) (fun K57 hK57 => ?_)
              go_simp
              refine hK57.out _ _ ?_
              clear hK57
              try simp only [Act.put, List.getElem_toArray, List.getElem_cons_zero, List.getElem_cons_succ, List.setIfInBounds_toArray, List.set_cons_zero, List.set_cons_succ]
              refine wpAnyY_done (by kernel_rfl) ?_ _
              clear hS hSk
              go_wp2_with fail
              go_roundw
              case rel => exact ⟨k + 1, by omega, by go_num, hG.t ga⟩
              case measure => simp [intOf] <;> omega
            · have z4 := z2 hb
              subst z4
              have hnb : (x0 == b) = false := by simpa using hb
              have hnb2 : (x0 != b) = true := by simpa using hb
              clear z2 z3
              go_upto_region 21 with fail
              refine wp_region_Y (S := fun W' => (W'.cell? ⟨g1, o1 + k * 3, none⟩ = some (.int .i64 x0) ∧ W'.cell? ⟨g1, o1 + k * 3 + 1, none⟩ = some (.int .i64 x1) ∧ g1 < W'.heap.size) ∧ W'.cell? ⟨g2, o2 + k * 3, none⟩ = some (.int .i64 x0) ∧ W'.cell? ⟨g2, o2 + k * 3 + 1, none⟩ = some (.int .i64 x1) ∧ g2 < W'.heap.size) 57 58 rfl (by kernel_rfl) (hSk _ (G.rf _).d) (fun hS => ?_)
              have ga := (G.rf wo).d
              change wpAnyY _ _ opsL21 _ _ 57 58 #[false, false, false, false, false, false, false, false, false, false, false, false, false, false, false, false, false, false, false, false, false, false, false, false, false, false, false, false, false, false, false, false, false, false, false, false, false, false, false, false, false, false, false, false, false, false, false, false, false, false, false, false, false, false, false, false, false, false] _ _
              refine wpAnyY_takeC (v := ?_) [33, 32, 11, 10, 4, 3, 2] rL21_0 rL21o_0 (fun _ _ _ h => h) (Or.inl ⟨by kernel_rfl, ?_⟩) hS ?_
              rotate_left
              · intro w' hSw; go_simp; with_reducible rfl
              try simp only [Act.put, List.getElem_toArray, List.getElem_cons_zero, List.getElem_cons_succ, List.setIfInBounds_toArray, List.set_cons_zero, List.set_cons_succ]
              refine wpAnyY_takeC (v := ?_) [33, 32, 11, 10, 4, 3, 2] rL21_1 rL21o_1 (fun _ _ _ h => h) (Or.inl ⟨by kernel_rfl, ?_⟩) hS ?_
              rotate_left
              · intro w' hSw; go_simp; with_reducible rfl
              try simp only [Act.put, List.getElem_toArray, List.getElem_cons_zero, List.getElem_cons_succ, List.setIfInBounds_toArray, List.set_cons_zero, List.set_cons_succ]
              refine wpAnyY_takeC (v := ?_) [33, 32, 11, 10, 4, 3] rL21_2 rL21o_2 (fun _ _ _ h => h) (Or.inl ⟨by kernel_rfl, ?_⟩) hS ?_
              rotate_left
              · intro w' hSw; go_simp; with_reducible rfl
              try simp only [Act.put, List.getElem_toArray, List.getElem_cons_zero, List.getElem_cons_succ, List.setIfInBounds_toArray, List.set_cons_zero, List.set_cons_succ]
              refine wpAnyY_takeC (v := ?_) [33, 32, 11, 10, 4] rL21_3 rL21o_3 (fun _ _ _ h => h) (Or.inl ⟨by kernel_rfl, ?_⟩) hS ?_
              rotate_left
              · intro w' hSw; go_simp; with_reducible rfl
              try simp only [Act.put, List.getElem_toArray, List.getElem_cons_zero, List.getElem_cons_succ, List.setIfInBounds_toArray, List.set_cons_zero, List.set_cons_succ]
              refine wpAnyY_takeC (v := ?_) [33, 32, 11, 10] rL21_4 rL21o_4 (fun _ _ _ h => h) (Or.inl ⟨by kernel_rfl, ?_⟩) hS ?_
              rotate_left
              · intro w' hSw; obtain ⟨⟨a0, a1, la⟩, b0, b1, lb⟩ := hSw; go_simp; with_reducible rfl
              try simp only [Act.put, List.getElem_toArray, List.getElem_cons_zero, List.getElem_cons_succ, List.setIfInBounds_toArray, List.set_cons_zero, List.set_cons_succ]
              refine wpAnyY_takeC (v := ?_) [33, 32, 11, 10, 9, 8, 7] rL21_5 rL21o_5 (fun _ _ _ h => h) (Or.inl ⟨by kernel_rfl, ?_⟩) hS ?_
              rotate_left
              · intro w' hSw; go_simp; with_reducible rfl
              try simp only [Act.put, List.getElem_toArray, List.getElem_cons_zero, List.getElem_cons_succ, List.setIfInBounds_toArray, List.set_cons_zero, List.set_cons_succ]
              refine wpAnyY_takeC (v := ?_) [33, 32, 11, 10, 9, 8, 7] rL21_6 rL21o_6 (fun _ _ _ h => h) (Or.inl ⟨by kernel_rfl, ?_⟩) hS ?_
              rotate_left
              · intro w' hSw; go_simp; with_reducible rfl
              try simp only [Act.put, List.getElem_toArray, List.getElem_cons_zero, List.getElem_cons_succ, List.setIfInBounds_toArray, List.set_cons_zero, List.set_cons_succ]
              refine wpAnyY_takeC (v := ?_) [33, 32, 11, 10, 9, 8] rL21_7 rL21o_7 (fun _ _ _ h => h) (Or.inl ⟨by kernel_rfl, ?_⟩) hS ?_
              rotate_left
              · intro w' hSw; go_simp; with_reducible rfl
              try simp only [Act.put, List.getElem_toArray, List.getElem_cons_zero, List.getElem_cons_succ, List.setIfInBounds_toArray, List.set_cons_zero, List.set_cons_succ]
              refine wpAnyY_takeC (v := ?_) [33, 32, 11, 10, 9] rL21_8 rL21o_8 (fun _ _ _ h => h) (Or.inl ⟨by kernel_rfl, ?_⟩) hS ?_
              rotate_left
              · intro w' hSw; go_simp; with_reducible rfl
              try simp only [Act.put, List.getElem_toArray, List.getElem_cons_zero, List.getElem_cons_succ, List.setIfInBounds_toArray, List.set_cons_zero, List.set_cons_succ]
              refine wpAnyY_takeC (v := ?_) [33, 32, 11, 10] rL21_9 rL21o_9 (fun _ _ _ h => h) (Or.inl ⟨by kernel_rfl, ?_⟩) hS ?_
              rotate_left
              · intro w' hSw; obtain ⟨⟨a0, a1, la⟩, b0, b1, lb⟩ := hSw; go_simp; with_reducible rfl
              try simp only [Act.put, List.getElem_toArray, List.getElem_cons_zero, List.getElem_cons_succ, List.setIfInBounds_toArray, List.set_cons_zero, List.set_cons_succ]
              refine wpAnyY_takeC (v := ?_) [33, 32, 11] rL21_10 rL21o_10 (fun _ _ _ h => h) (Or.inl ⟨by kernel_rfl, ?_⟩) hS ?_
              rotate_left
              · intro w' hSw; go_simp; with_reducible rfl
              try simp only [Act.put, List.getElem_toArray, List.getElem_cons_zero, List.getElem_cons_succ, List.setIfInBounds_toArray, List.set_cons_zero, List.set_cons_succ]
              refine wpAnyY_takeC (v := ?_) [33, 32] rL21_11 rL21o_11 (fun _ _ _ h => h) (Or.inl ⟨by kernel_rfl, ?_⟩) hS ?_
              rotate_left
              · intro w' hSw; go_simp; with_reducible rfl
              try simp only [Act.put, List.getElem_toArray, List.getElem_cons_zero, List.getElem_cons_succ, List.setIfInBounds_toArray, List.set_cons_zero, List.set_cons_succ]
              refine wpAnyY_takeC (v := ?_) [33, 19, 18, 16, 15, 14] rL21_12 rL21o_12 (fun _ _ _ h => h) (Or.inl ⟨by kernel_rfl, ?_⟩) hS ?_
              rotate_left
              · intro w' hSw; go_simp; with_reducible rfl
              try simp only [Act.put, List.getElem_toArray, List.getElem_cons_zero, List.getElem_cons_succ, List.setIfInBounds_toArray, List.set_cons_zero, List.set_cons_succ]
              refine wpAnyY_takeC (v := ?_) [33, 19, 18, 16, 15, 14] rL21_13 rL21o_13 (fun _ _ _ h => h) (Or.inl ⟨by kernel_rfl, ?_⟩) hS ?_
              rotate_left
              · intro w' hSw; go_simp; with_reducible rfl
              try simp only [Act.put, List.getElem_toArray, List.getElem_cons_zero, List.getElem_cons_succ, List.setIfInBounds_toArray, List.set_cons_zero, List.set_cons_succ]
              refine wpAnyY_takeC (v := ?_) [33, 19, 18, 16, 15] rL21_14 rL21o_14 (fun _ _ _ h => h) (Or.inl ⟨by kernel_rfl, ?_⟩) hS ?_
              rotate_left
              · intro w' hSw; go_simp; with_reducible rfl
              try simp only [Act.put, List.getElem_toArray, List.getElem_cons_zero, List.getElem_cons_succ, List.setIfInBounds_toArray, List.set_cons_zero, List.set_cons_succ]
              refine wpAnyY_takeC (v := ?_) [33, 19, 18, 16] rL21_15 rL21o_15 (fun _ _ _ h => h) (Or.inl ⟨by kernel_rfl, ?_⟩) hS ?_
              rotate_left
              · intro w' hSw; go_simp; with_reducible rfl
              try simp only [Act.put, List.getElem_toArray, List.getElem_cons_zero, List.getElem_cons_succ, List.setIfInBounds_toArray, List.set_cons_zero, List.set_cons_succ]
              refine wpAnyY_takeC (v := ?_) [33, 19, 18] rL21_16 rL21o_16 (fun _ _ _ h => h) (Or.inl ⟨by kernel_rfl, ?_⟩) hS ?_
              rotate_left
              · intro w' hSw; obtain ⟨⟨a0, a1, la⟩, b0, b1, lb⟩ := hSw; go_simp; with_reducible rfl
              try simp only [Act.put, List.getElem_toArray, List.getElem_cons_zero, List.getElem_cons_succ, List.setIfInBounds_toArray, List.set_cons_zero, List.set_cons_succ]
              refine wpAnyY_takeC (v := ?_) [33, 19, 18] rL21_17 rL21o_17 (fun _ _ _ h => h) (Or.inl ⟨by kernel_rfl, ?_⟩) hS ?_
              rotate_left
              · intro w' hSw; go_simp; with_reducible rfl
              try simp only [Act.put, List.getElem_toArray, List.getElem_cons_zero, List.getElem_cons_succ, List.setIfInBounds_toArray, List.set_cons_zero, List.set_cons_succ]
              refine wpAnyY_takeC (v := ?_) [33, 19] rL21_18 rL21o_18 (fun _ _ _ h => h) (Or.inl ⟨by kernel_rfl, ?_⟩) hS ?_
              rotate_left
              · intro w' hSw; go_simp; with_reducible rfl
              try simp only [Act.put, List.getElem_toArray, List.getElem_cons_zero, List.getElem_cons_succ, List.setIfInBounds_toArray, List.set_cons_zero, List.set_cons_succ]
              refine wpAnyY_takeC (v := ?_) [33] rL21_19 rL21o_19 (fun _ _ _ h => h) (Or.inl ⟨by kernel_rfl, ?_⟩) hS ?_
              rotate_left
              · intro w' hSw; go_simp; with_reducible rfl
              try simp only [Act.put, List.getElem_toArray, List.getElem_cons_zero, List.getElem_cons_succ, List.setIfInBounds_toArray, List.set_cons_zero, List.set_cons_succ]
              refine wpAnyY_takeC (v := ?_) [33, 32, 31, 30, 24, 23, 22] rL21_20 rL21o_20 (fun _ _ _ h => h) (Or.inl ⟨by kernel_rfl, ?_⟩) hS ?_
              rotate_left
              · intro w' hSw; go_simp; with_reducible rfl
              try simp only [Act.put, List.getElem_toArray, List.getElem_cons_zero, List.getElem_cons_succ, List.setIfInBounds_toArray, List.set_cons_zero, List.set_cons_succ]
              refine wpAnyY_takeC (v := ?_) [33, 32, 31, 30, 24, 23, 22] rL21_21 rL21o_21 (fun _ _ _ h => h) (Or.inl ⟨by kernel_rfl, ?_⟩) hS ?_
              rotate_left
              · intro w' hSw; go_simp; with_reducible rfl
              try simp only [Act.put, List.getElem_toArray, List.getElem_cons_zero, List.getElem_cons_succ, List.setIfInBounds_toArray, List.set_cons_zero, List.set_cons_succ]
              refine wpAnyY_takeC (v := ?_) [33, 32, 31, 30, 24, 23] rL21_22 rL21o_22 (fun _ _ _ h => h) (Or.inl ⟨by kernel_rfl, ?_⟩) hS ?_
              rotate_left
              · intro w' hSw; go_simp; with_reducible rfl
              try simp only [Act.put, List.getElem_toArray, List.getElem_cons_zero, List.getElem_cons_succ, List.setIfInBounds_toArray, List.set_cons_zero, List.set_cons_succ]
              refine wpAnyY_takeC (v := ?_) [33, 32, 31, 30, 24] rL21_23 rL21o_23 (fun _ _ _ h => h) (Or.inl ⟨by kernel_rfl, ?_⟩) hS ?_
              rotate_left
              · intro w' hSw; go_simp; with_reducible rfl
              try simp only [Act.put, List.getElem_toArray, List.getElem_cons_zero, List.getElem_cons_succ, List.setIfInBounds_toArray, List.set_cons_zero, List.set_cons_succ]
              refine wpAnyY_takeC (v := ?_) [33, 32, 31, 30] rL21_24 rL21o_24 (fun _ _ _ h => h) (Or.inl ⟨by kernel_rfl, ?_⟩) hS ?_
              rotate_left
              · intro w' hSw; obtain ⟨⟨a0, a1, la⟩, b0, b1, lb⟩ := hSw; go_simp; with_reducible rfl
              try simp only [Act.put, List.getElem_toArray, List.getElem_cons_zero, List.getElem_cons_succ, List.setIfInBounds_toArray, List.set_cons_zero, List.set_cons_succ]
              refine wpAnyY_takeC (v := ?_) [33, 32, 31, 30, 29, 28, 27] rL21_25 rL21o_25 (fun _ _ _ h => h) (Or.inl ⟨by kernel_rfl, ?_⟩) hS ?_
              rotate_left
              · intro w' hSw; go_simp; with_reducible rfl
              try simp only [Act.put, List.getElem_toArray, List.getElem_cons_zero, List.getElem_cons_succ, List.setIfInBounds_toArray, List.set_cons_zero, List.set_cons_succ]
              refine wpAnyY_takeC (v := ?_) [33, 32, 31, 30, 29, 28, 27] rL21_26 rL21o_26 (fun _ _ _ h => h) (Or.inl ⟨by kernel_rfl, ?_⟩) hS ?_
              rotate_left
              · intro w' hSw; go_simp; with_reducible rfl
              try simp only [Act.put, List.getElem_toArray, List.getElem_cons_zero, List.getElem_cons_succ, List.setIfInBounds_toArray, List.set_cons_zero, List.set_cons_succ]
              refine wpAnyY_takeC (v := ?_) [33, 32, 31, 30, 29, 28] rL21_27 rL21o_27 (fun _ _ _ h => h) (Or.inl ⟨by kernel_rfl, ?_⟩) hS ?_
              rotate_left
              · intro w' hSw; go_simp; with_reducible rfl
              try simp only [Act.put, List.getElem_toArray, List.getElem_cons_zero, List.getElem_cons_succ, List.setIfInBounds_toArray, List.set_cons_zero, List.set_cons_succ]
              refine wpAnyY_takeC (v := ?_) [33, 32, 31, 30, 29] rL21_28 rL21o_28 (fun _ _ _ h => h) (Or.inl ⟨by kernel_rfl, ?_⟩) hS ?_
              rotate_left
              · intro w' hSw; go_simp; with_reducible rfl
              try simp only [Act.put, List.getElem_toArray, List.getElem_cons_zero, List.getElem_cons_succ, List.setIfInBounds_toArray, List.set_cons_zero, List.set_cons_succ]
              refine wpAnyY_takeC (v := ?_) [33, 32, 31, 30] rL21_29 rL21o_29 (fun _ _ _ h => h) (Or.inl ⟨by kernel_rfl, ?_⟩) hS ?_
              rotate_left
              · intro w' hSw; obtain ⟨⟨a0, a1, la⟩, b0, b1, lb⟩ := hSw; go_simp; with_reducible rfl
              try simp only [Act.put, List.getElem_toArray, List.getElem_cons_zero, List.getElem_cons_succ, List.setIfInBounds_toArray, List.set_cons_zero, List.set_cons_succ]
              refine wpAnyY_takeC (v := ?_) [33, 32, 31] rL21_30 rL21o_30 (fun _ _ _ h => h) (Or.inl ⟨by kernel_rfl, ?_⟩) hS ?_
              rotate_left
              · intro w' hSw; go_simp; with_reducible rfl
              try simp only [Act.put, List.getElem_toArray, List.getElem_cons_zero, List.getElem_cons_succ, List.setIfInBounds_toArray, List.set_cons_zero, List.set_cons_succ]
              refine wpAnyY_takeC (v := ?_) [33, 32] rL21_31 rL21o_31 (fun _ _ _ h => h) (Or.inl ⟨by kernel_rfl, ?_⟩) hS ?_
              rotate_left
              · intro w' hSw; go_simp; with_reducible rfl
              try simp only [Act.put, List.getElem_toArray, List.getElem_cons_zero, List.getElem_cons_succ, List.setIfInBounds_toArray, List.set_cons_zero, List.set_cons_succ]
              refine wpAnyY_takeC (v := ?_) [33] rL21_32 rL21o_32 (fun _ _ _ h => h) (Or.inl ⟨by kernel_rfl, ?_⟩) hS ?_
              rotate_left
              · intro w' hSw; go_simp; with_reducible rfl
              try simp only [Act.put, List.getElem_toArray, List.getElem_cons_zero, List.getElem_cons_succ, List.setIfInBounds_toArray, List.set_cons_zero, List.set_cons_succ]
              refine wpAnyY_takeC (v := ?_) [] rL21_33 rL21o_33 (fun _ _ _ h => h) (Or.inl ⟨by kernel_rfl, ?_⟩) hS ?_
              rotate_left
              · intro w' hSw; go_simp; with_reducible rfl
              try simp only [Act.put, List.getElem_toArray, List.getElem_cons_zero, List.getElem_cons_succ, List.setIfInBounds_toArray, List.set_cons_zero, List.set_cons_succ]
              refine wpAnyY_takeC (v := ?_) [56, 41, 40, 38, 37, 36] rL21_34 rL21o_34 (fun _ _ _ h => h) (Or.inl ⟨by kernel_rfl, ?_⟩) hS ?_
              rotate_left
              · intro w' hSw; go_simp; with_reducible rfl
              try simp only [Act.put, List.getElem_toArray, List.getElem_cons_zero, List.getElem_cons_succ, List.setIfInBounds_toArray, List.set_cons_zero, List.set_cons_succ]
              refine wpAnyY_takeC (v := ?_) [56, 41, 40, 38, 37, 36] rL21_35 rL21o_35 (fun _ _ _ h => h) (Or.inl ⟨by kernel_rfl, ?_⟩) hS ?_
              rotate_left
              · intro w' hSw; go_simp; with_reducible rfl
              try simp only [Act.put, List.getElem_toArray, List.getElem_cons_zero, List.getElem_cons_succ, List.setIfInBounds_toArray, List.set_cons_zero, List.set_cons_succ]
              refine wpAnyY_takeC (v := ?_) [56, 41, 40, 38, 37] rL21_36 rL21o_36 (fun _ _ _ h => h) (Or.inl ⟨by kernel_rfl, ?_⟩) hS ?_
              rotate_left
              · intro w' hSw; go_simp; with_reducible rfl
              try simp only [Act.put, List.getElem_toArray, List.getElem_cons_zero, List.getElem_cons_succ, List.setIfInBounds_toArray, List.set_cons_zero, List.set_cons_succ]
              refine wpAnyY_takeC (v := ?_) [56, 41, 40, 38] rL21_37 rL21o_37 (fun _ _ _ h => h) (Or.inl ⟨by kernel_rfl, ?_⟩) hS ?_
              rotate_left
              · intro w' hSw; go_simp; with_reducible rfl
              try simp only [Act.put, List.getElem_toArray, List.getElem_cons_zero, List.getElem_cons_succ, List.setIfInBounds_toArray, List.set_cons_zero, List.set_cons_succ]
              refine wpAnyY_takeC (v := ?_) [56, 41, 40] rL21_38 rL21o_38 (fun _ _ _ h => h) (Or.inl ⟨by kernel_rfl, ?_⟩) hS ?_
              rotate_left
              · intro w' hSw; obtain ⟨⟨a0, a1, la⟩, b0, b1, lb⟩ := hSw; go_simp; with_reducible rfl
              try simp only [Act.put, List.getElem_toArray, List.getElem_cons_zero, List.getElem_cons_succ, List.setIfInBounds_toArray, List.set_cons_zero, List.set_cons_succ]
              refine wpAnyY_takeC (v := ?_) [56, 41, 40] rL21_39 rL21o_39 (fun _ _ _ h => h) (Or.inl ⟨by kernel_rfl, ?_⟩) hS ?_
              rotate_left
              · intro w' hSw; go_simp; with_reducible rfl
              try simp only [Act.put, List.getElem_toArray, List.getElem_cons_zero, List.getElem_cons_succ, List.setIfInBounds_toArray, List.set_cons_zero, List.set_cons_succ]
              refine wpAnyY_takeC (v := ?_) [56, 41] rL21_40 rL21o_40 (fun _ _ _ h => h) (Or.inl ⟨by kernel_rfl, ?_⟩) hS ?_
              rotate_left
              · intro w' hSw; go_simp; with_reducible rfl
              try simp only [Act.put, List.getElem_toArray, List.getElem_cons_zero, List.getElem_cons_succ, List.setIfInBounds_toArray, List.set_cons_zero, List.set_cons_succ]
              refine wpAnyY_takeC (v := ?_) [56] rL21_41 rL21o_41 (fun _ _ _ h => h) (Or.inl ⟨by kernel_rfl, ?_⟩) hS ?_
              rotate_left
              · intro w' hSw; go_simp; with_reducible rfl
              try simp only [Act.put, List.getElem_toArray, List.getElem_cons_zero, List.getElem_cons_succ, List.setIfInBounds_toArray, List.set_cons_zero, List.set_cons_succ]
              refine wpAnyY_takeC (v := undef) [56, 55, 48, 47, 46, 45, 44] rL21_42 rL21o_42 (fun _ _ _ h => h) (Or.inr ⟨by kernel_rfl, rfl⟩) hS ?_
              try simp only [Act.put, List.getElem_toArray, List.getElem_cons_zero, List.getElem_cons_succ, List.setIfInBounds_toArray, List.set_cons_zero, List.set_cons_succ]
              refine wpAnyY_takeC (v := undef) [56, 55, 48, 47, 46, 45, 44] rL21_43 rL21o_43 (fun _ _ _ h => h) (Or.inr ⟨by kernel_rfl, rfl⟩) hS ?_
              try simp only [Act.put, List.getElem_toArray, List.getElem_cons_zero, List.getElem_cons_succ, List.setIfInBounds_toArray, List.set_cons_zero, List.set_cons_succ]
              refine wpAnyY_takeC (v := undef) [56, 55, 48, 47, 46, 45] rL21_44 rL21o_44 (fun _ _ _ h => h) (Or.inr ⟨by kernel_rfl, rfl⟩) hS ?_
              try simp only [Act.put, List.getElem_toArray, List.getElem_cons_zero, List.getElem_cons_succ, List.setIfInBounds_toArray, List.set_cons_zero, List.set_cons_succ]
              refine wpAnyY_takeC (v := undef) [56, 55, 48, 47, 46] rL21_45 rL21o_45 (fun _ _ _ h => h) (Or.inr ⟨by kernel_rfl, rfl⟩) hS ?_
              try simp only [Act.put, List.getElem_toArray, List.getElem_cons_zero, List.getElem_cons_succ, List.setIfInBounds_toArray, List.set_cons_zero, List.set_cons_succ]
              refine wpAnyY_takeC (v := undef) [56, 55, 48, 47] rL21_46 rL21o_46 (fun _ _ _ h => h) (Or.inr ⟨by kernel_rfl, rfl⟩) hS ?_
              try simp only [Act.put, List.getElem_toArray, List.getElem_cons_zero, List.getElem_cons_succ, List.setIfInBounds_toArray, List.set_cons_zero, List.set_cons_succ]
              refine wpAnyY_takeC (v := undef) [56, 55, 48] rL21_47 rL21o_47 (fun _ _ _ h => h) (Or.inr ⟨by kernel_rfl, rfl⟩) hS ?_
              try simp only [Act.put, List.getElem_toArray, List.getElem_cons_zero, List.getElem_cons_succ, List.setIfInBounds_toArray, List.set_cons_zero, List.set_cons_succ]
              refine wpAnyY_takeC (v := undef) [56, 55] rL21_48 rL21o_48 (fun _ _ _ h => h) (Or.inr ⟨by kernel_rfl, rfl⟩) hS ?_
              try simp only [Act.put, List.getElem_toArray, List.getElem_cons_zero, List.getElem_cons_succ, List.setIfInBounds_toArray, List.set_cons_zero, List.set_cons_succ]
              refine wpAnyY_takeC (v := undef) [56, 55, 54, 53, 52, 51] rL21_49 rL21o_49 (fun _ _ _ h => h) (Or.inr ⟨by kernel_rfl, rfl⟩) hS ?_
              try simp only [Act.put, List.getElem_toArray, List.getElem_cons_zero, List.getElem_cons_succ, List.setIfInBounds_toArray, List.set_cons_zero, List.set_cons_succ]
              refine wpAnyY_takeC (v := undef) [56, 55, 54, 53, 52, 51] rL21_50 rL21o_50 (fun _ _ _ h => h) (Or.inr ⟨by kernel_rfl, rfl⟩) hS ?_
              try simp only [Act.put, List.getElem_toArray, List.getElem_cons_zero, List.getElem_cons_succ, List.setIfInBounds_toArray, List.set_cons_zero, List.set_cons_succ]
              refine wpAnyY_takeC (v := undef) [56, 55, 54, 53, 52] rL21_51 rL21o_51 (fun _ _ _ h => h) (Or.inr ⟨by kernel_rfl, rfl⟩) hS ?_
              try simp only [Act.put, List.getElem_toArray, List.getElem_cons_zero, List.getElem_cons_succ, List.setIfInBounds_toArray, List.set_cons_zero, List.set_cons_succ]
              refine wpAnyY_takeC (v := undef) [56, 55, 54, 53] rL21_52 rL21o_52 (fun _ _ _ h => h) (Or.inr ⟨by kernel_rfl, rfl⟩) hS ?_
              try simp only [Act.put, List.getElem_toArray, List.getElem_cons_zero, List.getElem_cons_succ, List.setIfInBounds_toArray, List.set_cons_zero, List.set_cons_succ]
              refine wpAnyY_takeC (v := undef) [56, 55, 54] rL21_53 rL21o_53 (fun _ _ _ h => h) (Or.inr ⟨by kernel_rfl, rfl⟩) hS ?_
              try simp only [Act.put, List.getElem_toArray, List.getElem_cons_zero, List.getElem_cons_succ, List.setIfInBounds_toArray, List.set_cons_zero, List.set_cons_succ]
              refine wpAnyY_takeC (v := undef) [56, 55] rL21_54 rL21o_54 (fun _ _ _ h => h) (Or.inr ⟨by kernel_rfl, rfl⟩) hS ?_
              try simp only [Act.put, List.getElem_toArray, List.getElem_cons_zero, List.getElem_cons_succ, List.setIfInBounds_toArray, List.set_cons_zero, List.set_cons_succ]
              refine wpAnyY_takeC (v := undef) [56] rL21_55 rL21o_55 (fun _ _ _ h => h) (Or.inr ⟨by kernel_rfl, rfl⟩) hS ?_
              try simp only [Act.put, List.getElem_toArray, List.getElem_cons_zero, List.getElem_cons_succ, List.setIfInBounds_toArray, List.set_cons_zero, List.set_cons_succ]
              refine wpAnyY_takeC (v := ?_) [] rL21_56 rL21o_56 (fun _ _ _ h => h) (Or.inl ⟨by kernel_rfl, ?_⟩) hS ?_
              rotate_left
              · intro w' hSw; go_simp; with_reducible rfl
              try simp only [Act.put, List.getElem_toArray, List.getElem_cons_zero, List.getElem_cons_succ, List.setIfInBounds_toArray, List.set_cons_zero, List.set_cons_succ]
              refine wpAnyY_oneW (i := 57) (by kernel_rfl) rL21o_57 (by kernel_rfl) (by kernel_rfl) (fun K57 hK57 => ?_)
              go_simp
              refine hK57.out _ _ ?_
              clear hK57
              try simp only [Act.put, List.getElem_toArray, List.getElem_cons_zero, List.getElem_cons_succ, List.setIfInBounds_toArray, List.set_cons_zero, List.set_cons_succ]
              refine wpAnyY_done (by kernel_rfl) ?_ _
              clear hS hSk
              go_wp2_with fail
              go_roundw
              case rel => exact ⟨k + 1, by omega, by go_num, hG.t ga⟩
              case measure => simp [intOf] <;> omega
          · obtain rfl : k = AL.length := by omega
            have hki : ¬ ((AL.length : Nat) : Int) < AL.length := by omega
            go_wp2_with (go_at_call 15; refine (HWK.out _).mono ?_; rintro e w16 ⟨rfl, hG16⟩)
            have gz := (gw7.t hG).t hG16
            first | exact ⟨rfl, gz⟩ | (go_ret; exact ⟨rfl, gz⟩)
end Go.Proofs.YtnkmcoljijmgpaaGreat
