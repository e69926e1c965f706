import Derived.Test.YtnkmcoljijmgpaaGreatBw
set_option linter.unusedSimpArgs false
set_option linter.unusedVariables false
namespace Go.Proofs.YtnkmcoljijmgpaaGreat
open Go.RowKit Go.Shelf Go.Sort Go.Maps
attribute [local go_sem] Oper.semAt_some
theorem pool_bad {x : Po} {k : Nat} (hk : k < x.table.length) (h : isInB (x.table.getD k 0) 0 1000 = false) : poolB x = false := by
  have hkb : kindB x = false := by
    unfold kindB
    split
    · have h1 : tableB x.table = false := by
        unfold tableB
        cases ha : allU (fun i => isInB (x.table.getD i 0) 0 1000) x.table.length
        · simp
        · have := allU_iff.1 ha k hk
          rw [h] at this
          cases this
      rw [h1]; rfl
    · have hl : ¬ x.table.length = 0 := by omega
      split
      · simp [hl]
      · split
        · simp [hl]
        · rfl
  unfold poolB
  rw [hkb]
  simp
theorem pool_good {x : Po} (h : ∀ k, k < x.table.length → isInB (x.table.getD k 0) 0 1000 = true) : poolB x = (isInB x.stake 0 100000 && (isInB x.cut 0 1000 && (if x.kind = 1 then (isInB x.table.length 1 8 && decide (sumTo x.table x.table.length ≤ 1000)) && decide (x.quota = 0) else if x.kind = 2 then decide (x.table.length = 0) && isInB x.quota 1 20 else if x.kind = 3 then decide (x.table.length = 0) && decide (x.quota = 0) else false))) := by
  have ha : allU (fun i => isInB (x.table.getD i 0) 0 1000) x.table.length = true := allU_iff.2 h
  unfold poolB kindB tableB
  rw [ha]
  unfold sumTo
  rw [List.take_length]
  simp
set_option maxRecDepth 100000 in
set_option maxHeartbeats 8000000 in
theorem isPool8_any (x : Po) (w : World) (h : IntsAt w x.ta x.table) (hl : x.table.length ≤ 1000) : Calls Tryz.prog 44 #[.agg x.v] w fun e w' => e = .returned (.bool (poolB x)) ∧ G w w' := by
  have HBAD := Lib.hid (fun (k : Nat) (hk : k < x.table.length) (hb : isInB (x.table.getD k 0) 0 1000 = false) => pool_bad hk hb)
  have HGOOD := Lib.hid (fun (hh : ∀ k, k < x.table.length → isInB (x.table.getD k 0) 0 1000 = true) => pool_good hh)
  have HP : Hid (∀ bb W', poolB x = bb → G w W' → ((Ending.returned (.bool bb) = .returned (.bool (poolB x))) ∧ G w W')) := fun bb W' a b => ⟨by rw [a], b⟩
  obtain ⟨ystake, ycut, ykind, yta, ytc, ytable, yquota, yfirst⟩ := x
  unfold Po.v
  dsimp only at *
  generalize poolB ⟨ystake, ycut, ykind, yta, ytc, ytable, yquota, yfirst⟩ = PB at *
  have g0 : G w (w.alloc (.cells #[.int .i64 ystake, .int .i64 ycut, .int .i64 ykind, .slice yta ytable.length ytc, .int .i64 yquota, .bool yfirst] 42)) := (G.rf _).a _
  have b0 : Blk (w.alloc (.cells #[.int .i64 ystake, .int .i64 ycut, .int .i64 ykind, .slice yta ytable.length ytc, .int .i64 yquota, .bool yfirst] 42)) w.heap.size 42 #[.int .i64 ystake, .int .i64 ycut, .int .i64 ykind, .slice yta ytable.length ytc, .int .i64 yquota, .bool yfirst] := Blk.new _ _ _
  have h0 := h.below g0
  clear h
  go_enter Tryz.func44, Tryz.ntmps44
  go_upto_region 1 with fail
  change Code.wp _ _ _ _ (w.alloc (.cells #[.int .i64 ystake, .int .i64 ycut, .int .i64 ykind, .slice yta ytable.length ytc, .int .i64 yquota, .bool yfirst] 42))
  generalize w.alloc (.cells #[.int .i64 ystake, .int .i64 ycut, .int .i64 ykind, .slice yta ytable.length ytc, .int .i64 yquota, .bool yfirst] 42) = W1 at *
  have m3 := b0.cell 3
  have l0 := b0.lt
  have HSN := Lib.hid (fun (k : Nat) (hk : k < ytable.length) => sumTo_succ ytable k hk)
  have HS0 : Hid (sumTo ytable 0 = 0) := by simp [sumTo, Hid]
  go_wp2_with fail
  clear m3 l0
  go_loopw [3, 4] (fun s i wr => ∃ k : Nat, k ≤ ytable.length ∧ i = .int .i64 k ∧ s = .int .i64 (sumTo ytable k) ∧ Hid (0 ≤ sumTo ytable k ∧ sumTo ytable k ≤ k * 1000) ∧ Hid (∀ j, j < k → isInB (ytable.getD j 0) 0 1000 = true) ∧ G W1 wr) (fun _ i _ => ytable.length - (intOf i).toNat)
  case atStart => exact ⟨0, Nat.zero_le _, rfl, by rw [HS0.out], by show 0 ≤ sumTo ytable 0 ∧ _; rw [HS0.out]; omega, fun j hj => by omega, G.rf _⟩
  case round =>
    obtain ⟨k, hk, rfl, rfl, HSB, HN, hG⟩ := hrel
    obtain ⟨wo, rfl⟩ : ∃ wo, wo = wr := ⟨_, rfl⟩
    have bo := b0.keep hG
    have m3 := bo.cell 3
    have l0 := bo.lt
    by_cases hlt : k < ytable.length
    · have hki : (k : Int) < ytable.length := by omega
      rcases h0 with rfl | ⟨g, off, rfl, hg, hcell⟩
      · simp at hlt
      have lg := Nat.lt_of_lt_of_le hg hG.size
      have hsn := HSN.out k hlt
      have hck := fun W (hW : G wo W) => ((bcellB (hG.t hW)).1 g (off + k) hg).trans (hcell k hlt)
      obtain ⟨x, hx⟩ : ∃ x, x = ytable.getD k 0 := ⟨_, rfl⟩
      have HX := Lib.hid hx
      rw [← hx] at hck hsn
      have HW := Lib.hid (fun W => within_any x 0 1000 W)
      have q0 := hck wo (G.rf _)
      clear hcell
      cases hin : isInB x 0 1000
      · rw [hin] at HW
        have hbad := HBAD.out k hlt (by rw [← hx]; exact hin)
        clear hx hin
        have HZ := Lib.hid (fun W' (hW : G wo W') => HP.out false W' hbad (g0.t (hG.t hW)))
        go_wp2_with (go_at_call 69; refine (HW.out _).mono ?_; rintro e w5 ⟨rfl, hG5⟩)
        have HZ2 := Lib.hid (HZ.out _ hG5)
        first | exact HZ2.out | (go_ret; exact HZ2.out)
      · rw [hin] at HW
        have HIN := Lib.hid hin
        have hxb : 0 ≤ x ∧ x ≤ 1000 := by unfold isInB at hin; simpa using hin
        have hsb := HSB.out
        clear hx hin
        obtain ⟨sk, hsk⟩ : ∃ sk, sk = sumTo ytable k := ⟨_, rfl⟩
        rw [← hsk] at hsn hsb ⊢
        have x1 : IntKind.i64.wrap (sk + x) = sk + x := IntWalk.i64_in _ (by omega)
        have HSN2 := Lib.hid hsn
        clear hsn hsk
        go_wp2_with (go_at_call 69; refine (HW.out _).mono ?_; rintro e w5 ⟨rfl, hG5⟩; clear m3 l0 q0 lg; have m3 := (bo.keep hG5).cell 3; have l0 := (bo.keep hG5).lt; have q0 := hck _ hG5; have lg := Nat.lt_of_lt_of_le hg (hG.t hG5).size)
        go_roundw
        case rel => exact ⟨k + 1, by omega, by go_num, by rw [HSN2.out], by show 0 ≤ sumTo ytable (k + 1) ∧ _; rw [HSN2.out]; omega, fun j hj => by
          rcases Nat.lt_or_ge j k with h4 | h4
          · exact HN.out j h4
          · obtain rfl : j = k := by omega
            rw [← HX.out]; exact HIN.out, hG.t hG5⟩
        case measure => simp [intOf] <;> omega
    · obtain rfl : k = ytable.length := by omega
      have hki : ¬ ((ytable.length : Nat) : Int) < ytable.length := by omega
      have hgood := HGOOD.out HN.out
      have HPZ := Lib.hid (fun bb W' (a : (isInB ystake 0 100000 && (isInB ycut 0 1000 && (if ykind = 1 then (isInB ytable.length 1 8 && decide (sumTo ytable ytable.length ≤ 1000)) && decide (yquota = 0) else if ykind = 2 then decide (ytable.length = 0) && isInB yquota 1 20 else if ykind = 3 then decide (ytable.length = 0) && decide (yquota = 0) else false))) = bb) (hW : G wo W') => HP.out bb W' (by rw [hgood, a]) (g0.t (hG.t hW)))
      have HSTK := Lib.hid (fun W => within_any ystake 0 100000 W)
      have HCUT := Lib.hid (fun W => within_any ycut 0 1000 W)
      have HLEN := Lib.hid (fun W => within_any (ytable.length : Nat) 1 8 W)
      have HQUO := Lib.hid (fun W => within_any yquota 1 20 W)
      have m0 := bo.cell 0
      have m1 := bo.cell 1
      have m2 := bo.cell 2
      have m4 := bo.cell 4
      clear hgood HP HBAD HGOOD HN h0
      obtain ⟨SM, hSM⟩ : ∃ SM, SM = sumTo ytable ytable.length := ⟨_, rfl⟩
      rw [← hSM] at HPZ ⊢
      clear hSM HSN HS0 HSB
      cases hst : isInB ystake 0 100000
      · rw [hst] at HSTK HPZ
        clear hst
        go_wp2_with (go_at_call 69; refine (HSTK.out _).mono ?_; rintro e w5 ⟨rfl, hG5⟩)
        have HZ := Lib.hid (HPZ.out false _ rfl hG5)
        first | exact HZ.out | (go_ret; exact HZ.out)
      · rw [hst] at HSTK HPZ
        clear hst
        cases hcu : isInB ycut 0 1000
        · rw [hcu] at HCUT HPZ
          clear hcu
          go_wp2_with (first | (go_at_call 69; refine (HSTK.out _).mono ?_; rintro e w5 ⟨rfl, hG5⟩; clear m0 m1 m2 m3 m4 l0 HSTK; have m1 := (bo.keep hG5).cell 1; have l0 := (bo.keep hG5).lt) | (go_at_call 69; refine (HCUT.out _).mono ?_; rintro e w6 ⟨rfl, hG6⟩))
          have HZ := Lib.hid (HPZ.out false _ rfl (hG5.t hG6))
          first | exact HZ.out | (go_ret; exact HZ.out)
        · rw [hcu] at HCUT HPZ
          clear hcu
          go_upto_region 10 with (first | (go_at_call 69; refine (HSTK.out _).mono ?_; rintro e w5 ⟨rfl, hG5⟩; clear m0 m1 m2 m3 m4 l0 HSTK; have m1 := (bo.keep hG5).cell 1; have l0 := (bo.keep hG5).lt) | (go_at_call 69; refine (HCUT.out _).mono ?_; rintro e w6 ⟨rfl, hG6⟩))
          have h56 := hG5.t hG6
          have bz := bo.keep h56
          have HPW := Lib.hid (fun bb W' a (hW : G w6 W') => HPZ.out bb W' a (h56.t hW))
          clear m1 l0 HCUT HPZ hG5 hG6 bo
          have m2 := bz.cell 2
          have m3 := bz.cell 3
          have m4 := bz.cell 4
          have l0 := bz.lt
          by_cases hk1 : ykind = 1
          · subst hk1
            simp only [if_true, Bool.true_and] at HPW
            cases hle : isInB (ytable.length : Nat) 1 8
            · rw [hle] at HLEN HPW
              clear hle
              go_wp2_with (go_at_call 69; refine (HLEN.out _).mono ?_; rintro e w7 ⟨rfl, hG7⟩)
              have HZ := Lib.hid (HPW.out false _ rfl hG7)
              first | exact HZ.out | (go_ret; exact HZ.out)
            · rw [hle] at HLEN HPW
              clear hle
              by_cases hsm : SM ≤ 1000
              · by_cases hq : yquota = 0
                · go_wp2_with (go_at_call 69; refine (HLEN.out _).mono ?_; rintro e w7 ⟨rfl, hG7⟩; clear m2 m3 m4 l0; have m4 := (bz.keep hG7).cell 4; have l0 := (bz.keep hG7).lt)
                  have HZ := Lib.hid (HPW.out true _ (by simp [hsm, hq]) hG7)
                  first | exact HZ.out | (go_ret; exact HZ.out)
                · have hqb : (yquota == 0) = false := by simpa using hq
                  go_wp2_with (go_at_call 69; refine (HLEN.out _).mono ?_; rintro e w7 ⟨rfl, hG7⟩; clear m2 m3 m4 l0; have m4 := (bz.keep hG7).cell 4; have l0 := (bz.keep hG7).lt)
                  have HZ := Lib.hid (HPW.out false _ (by simp [hq]) hG7)
                  first | exact HZ.out | (go_ret; exact HZ.out) | (go_ret; rw [hqb]; exact HZ.out)
              · have hsb : decide (SM ≤ 1000) = false := decide_eq_false hsm
                go_wp2_with (go_at_call 69; refine (HLEN.out _).mono ?_; rintro e w7 ⟨rfl, hG7⟩)
                have HZ := Lib.hid (HPW.out false _ (by rw [hsb]; simp) hG7)
                first | exact HZ.out | (go_ret; exact HZ.out) | (go_ret; rw [hsb]; exact HZ.out)
          · by_cases hk2 : ykind = 2
            · subst hk2
              simp only [show ¬ ((2 : Int) = 1) by decide, if_false, if_true, Bool.true_and] at HPW
              by_cases hn : ytable.length = 0
              · have hni : ((ytable.length : Nat) : Int) = 0 := by omega
                cases hqu : isInB yquota 1 20
                · rw [hqu] at HQUO HPW
                  clear hqu
                  go_wp2_with (go_at_call 69; refine (HQUO.out _).mono ?_; rintro e w7 ⟨rfl, hG7⟩)
                  have HZ := Lib.hid (HPW.out false _ (by simp) hG7)
                  first | exact HZ.out | (go_ret; exact HZ.out)
                · rw [hqu] at HQUO HPW
                  clear hqu
                  go_wp2_with (go_at_call 69; refine (HQUO.out _).mono ?_; rintro e w7 ⟨rfl, hG7⟩)
                  have HZ := Lib.hid (HPW.out true _ (by simp [hn]) hG7)
                  first | exact HZ.out | (go_ret; exact HZ.out)
              · have hni : ¬ ((ytable.length : Nat) : Int) = 0 := by omega
                go_wp2_with fail
                have HZ := Lib.hid (HPW.out false _ (by simp [hn]) (G.rf _))
                first | exact HZ.out | (go_ret; exact HZ.out)
            · by_cases hk3 : ykind = 3
              · subst hk3
                simp only [show ¬ ((3 : Int) = 1) by decide, show ¬ ((3 : Int) = 2) by decide, if_false, if_true, Bool.true_and] at HPW
                by_cases hn : ytable.length = 0
                · have hni : ((ytable.length : Nat) : Int) = 0 := by omega
                  by_cases hq : yquota = 0
                  · go_wp2_with fail
                    have HZ := Lib.hid (HPW.out true _ (by simp [hn, hq]) (G.rf _))
                    first | exact HZ.out | (go_ret; exact HZ.out)
                  · have hqb : (yquota == 0) = false := by simpa using hq
                    go_wp2_with fail
                    have HZ := Lib.hid (HPW.out false _ (by simp [hq]) (G.rf _))
                    first | exact HZ.out | (go_ret; exact HZ.out) | (go_ret; rw [hqb]; exact HZ.out)
                · have hni : ¬ ((ytable.length : Nat) : Int) = 0 := by omega
                  go_wp2_with fail
                  have HZ := Lib.hid (HPW.out false _ (by simp [hn]) (G.rf _))
                  first | exact HZ.out | (go_ret; exact HZ.out)
              · simp only [hk1, hk2, hk3, if_false, Bool.true_and] at HPW
                have e1 : (ykind == 1) = false := by simpa using hk1
                have e2 : (ykind == 2) = false := by simpa using hk2
                have e3 : (ykind == 3) = false := by simpa using hk3
                go_wp2_with fail
                have HZ := Lib.hid (HPW.out false _ rfl (G.rf _))
                first | exact HZ.out | (go_ret; exact HZ.out)
end Go.Proofs.YtnkmcoljijmgpaaGreat
