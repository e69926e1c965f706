import Derived.Test.YtnkmcoljijmgpaaGreatAp
set_option linter.unusedSimpArgs false
set_option linter.unusedVariables false
namespace Go.Proofs.YtnkmcoljijmgpaaGreat
open Go.RowKit Go.Shelf Go.Sort
attribute [local go_sem] Oper.semAt_some
set_option maxRecDepth 100000 in
set_option maxHeartbeats 8000000 in
theorem order_any (f : Fu) (st : List Int) (sa : Option Addr) (sc : Nat) (w : World) (hrow : RowE Rc.v 5 w f.fa f.rs) (hn : f.fa ≠ none ∨ f.rs = []) (hi : IntsAt w sa st) (hl : st.length ≤ 1000) (h12 : f.rs.length ≤ 12) (hu : Uniq f.rs) (hs : f.rs.Pairwise fun x y => x.bird ≤ y.bird) :
    Calls Tryz.prog 58 #[.agg f.v, .slice sa st.length sc] w (OrderPost w (orderL f st)) := by
  have HT := Lib.hid (fun (W : World) (hW : G w W) => takers_any f st sa sc W (hrow.below hW) hn (hi.below hW) hl h12 hu hs)
  have hTl : (takersL f st).length ≤ 12 := by
    unfold takersL
    rw [tks_len]
    exact Nat.le_trans (List.length_filter_le _ _) h12
  have hTd : ∀ i, i < (takersL f st).length → ((takersL f st).getD i default).day ≠ 0 := fun i hi' => by
    have hm : (takersL f st).getD i default ∈ takersL f st := by
      rw [List.getD_eq_getElem?_getD, List.getElem?_eq_getElem hi']
      exact List.getElem_mem _
    have hm2 := (tks_perm _).mem_iff.1 hm
    have h3 := (List.mem_filter.1 hm2).2
    intro e
    have h4 : skipB f.po.first st ((takersL f st).getD i default) = true := by unfold skipB; rw [decide_eq_true e]; simp
    rw [h4] at h3
    cases h3
  unfold orderL
  generalize takersL f st = TT at *
  have HP : Hid (∀ w' v cs Bl, OrdAt w' w.heap.size v (grpTo TT TT.length) cs Bl → G w w' → OrderPost w (grpTo TT TT.length) (.returned v) w') := fun w' v cs Bl a b => ⟨v, cs, Bl, rfl, a, b⟩
  generalize OrderPost w (grpTo TT TT.length) = PP at *
  have HPOS := Lib.hid (grpTo_pos TT hTd)
  have HTD := Lib.hid hTd
  clear hrow hn hi hu hs hTd
  obtain ⟨⟨ystake, ycut, ykind, yta, ytc, ytable, yquota, yfirst⟩, fa, fc, rs, pa, pc, ps⟩ := f
  unfold Fu.v at *
  dsimp only at *
  obtain ⟨W1, hW1⟩ : ∃ W1, W1 = (w.alloc (.cells #[.int .i64 ystake, .int .i64 ycut, .int .i64 ykind, .slice yta ytable.length ytc, .int .i64 yquota, .bool yfirst, .slice fa rs.length fc, .slice pa ps.length pc] 85)).alloc (.cells #[.int .i64 0, .int .i64 0, .int .i64 0, .int .i64 0, .slice none 0 0] 60) := ⟨_, rfl⟩
  have g0 : G w W1 := by rw [hW1]; exact ((G.rf _).a _).a _
  have b0 : Blk W1 w.heap.size 85 #[.int .i64 ystake, .int .i64 ycut, .int .i64 ykind, .slice yta ytable.length ytc, .int .i64 yquota, .bool yfirst, .slice fa rs.length fc, .slice pa ps.length pc] := by rw [hW1]; exact (Blk.new _ _ _).alloc _
  have b6 : Blk W1 (w.heap.size + 1) 60 #[.int .i64 0, .int .i64 0, .int .i64 0, .int .i64 0, .slice none 0 0] := by rw [hW1]; exact Blk.new1 _ _ _ _
  go_enter Tryz.func58, Tryz.ntmps58
  go_upto_region 3 with fail
  change Code.wp _ _ _ _ ((w.alloc (.cells #[.int .i64 ystake, .int .i64 ycut, .int .i64 ykind, .slice yta ytable.length ytc, .int .i64 yquota, .bool yfirst, .slice fa rs.length fc, .slice pa ps.length pc] 85)).alloc (.cells #[.int .i64 0, .int .i64 0, .int .i64 0, .int .i64 0, .slice none 0 0] 60))
  rw [← hW1]
  clear hW1
  have m0 := b0.cell 0
  have m1 := b0.cell 1
  have m2 := b0.cell 2
  have m3 := b0.cell 3
  have m4 := b0.cell 4
  have m5 := b0.cell 5
  have m6 := b0.cell 6
  have m7 := b0.cell 7
  have l0 := b0.lt
  clear b0
  go_wp2_with (go_at_call 83; refine (HT.out _ g0).mono ?_; rintro e w3 ⟨tv, rfl, ho3, hG3⟩; obtain ⟨ta, tc, rfl, hrw⟩ := own_row ho3)
  clear m0 m1 m2 m3 m4 m5 m6 m7 l0 HT
  have b63 := b6.keep hG3
  have lb6 := b6.lt
  have hs3 : w.heap.size + 1 < w3.heap.size := b63.lt
  have g3 := g0.t hG3
  have HROW := Lib.hid hrw
  have HTB : Hid (∀ a, ta = some a → W1.heap.size ≤ a.block) := fun a ha => by
    subst ha
    exact own_base ho3 rfl
  clear ho3 hrw b6
  go_loopw [5, 15] (fun v i wr => ∃ (k : Nat) (cs : List Value) (Bl : Nat) (bb bo br bd : Int) (bpa : Option Addr) (bpl bpc : Nat), k ≤ TT.length ∧ i = .int .i64 k ∧ Hid (OrdAt wr w3.heap.size v (grpTo TT k) cs Bl) ∧ Hid (Blk wr (w.heap.size + 1) 60 #[.int .i64 bb, .int .i64 bo, .int .i64 br, .int .i64 bd, .slice bpa bpl bpc]) ∧ Hid (befD TT k = (bd, br)) ∧ Hid (Fr (fun i => i = w.heap.size + 1) w3 wr)) (fun _ i _ => TT.length - (intOf i).toNat)
  case atStart => exact ⟨0, [], w3.heap.size, 0, 0, 0, 0, none, 0, 0, Nat.zero_le _, rfl, OrdAt.nil _ _ (Nat.le_refl _), b63, rfl, Fr.rf _ _⟩
  case round =>
    clear b63
    obtain ⟨k, cs, Bl, bb, bo, br, bd, bpa, bpl, bpc, hk, rfl, HORD, HB6, HBD, HFR⟩ := hrel
    obtain ⟨wo, rfl⟩ : ∃ wo, wo = wr := ⟨_, rfl⟩
    by_cases hlt : k < TT.length
    · have hki : (k : Int) < TT.length := by omega
      rcases HROW.out with h | ⟨gr, ofr, rfl, hgr, hcell⟩
      · omega
      have hgrb := HTB.out _ rfl
      have hgb : W1.heap.size ≤ gr := hgrb
      have hne : gr ≠ w.heap.size + 1 := by omega
      have lg : gr < wo.heap.size := Nat.lt_of_lt_of_le hgr HFR.out.size
      have hcl : ∀ r, r < 5 → wo.cell? ⟨gr, ofr + k * 5 + r, none⟩ = (Rc.v (TT.getD k default))[r]? := fun r hr => by
        have e := HFR.out.block gr hgr hne
        have e2 := hcell k hlt r hr
        simp only [World.cell?] at e2 ⊢
        rw [e]
        exact e2
      have hgs : grpTo TT (k + 1) = if sameB TT k = true then addLast (grpTo TT k) (TT.getD k default).bird else addLast (grpTo TT k ++ [[]]) (TT.getD k default).bird := rfl
      have hsb : sameB TT k = decide ((TT.getD k default).day = bd ∧ (TT.getD k default).rank = br) := by unfold sameB; rw [HBD.out]
      have hb1 : befD TT (k + 1) = ((TT.getD k default).day, (TT.getD k default).rank) := by unfold befD; rw [if_neg (by omega)]; rfl
      have hglen := grpTo_le TT k
      have hgrw := Lib.hid (fun i => grpTo_row TT k i)
      have HPO := Lib.hid (HPOS.out k)
      have hzd := HTD.out k hlt
      have h0b : k = 0 → bd = 0 := fun e => by have := HBD.out; unfold befD at this; rw [if_pos e] at this; exact (congrArg Prod.fst this).symm
      obtain ⟨y, hy⟩ : ∃ y, y = TT.getD k default := ⟨_, rfl⟩
      rw [← hy] at hcl hgs hsb hb1 hzd
      clear hcell
      obtain ⟨zbird, zowner, zrank, zday, zpa, zpc, zpools⟩ := y
      unfold Rc.v at hcl
      have HGS := Lib.hid hgs
      have HB1 := Lib.hid hb1
      dsimp only at HGS HB1 hsb hzd
      clear hgs hb1 hy
      have q0 : wo.cell? ⟨gr, ofr + k * 5, none⟩ = some (.int .i64 zbird) := hcl 0 (by omega)
      have q1 : wo.cell? ⟨gr, ofr + k * 5 + 1, none⟩ = some (.int .i64 zowner) := hcl 1 (by omega)
      have q2 : wo.cell? ⟨gr, ofr + k * 5 + 2, none⟩ = some (.int .i64 zrank) := hcl 2 (by omega)
      have q3 : wo.cell? ⟨gr, ofr + k * 5 + 3, none⟩ = some (.int .i64 zday) := hcl 3 (by omega)
      have q4 : wo.cell? ⟨gr, ofr + k * 5 + 4, none⟩ = some (.slice zpa zpools.length zpc) := hcl 4 (by omega)
      clear hcl
      go_upto_region 6 with fail
      have gw : G wo (wo.alloc (.cells #[.int .i64 zbird, .int .i64 zowner, .int .i64 zrank, .int .i64 zday, .slice zpa zpools.length zpc] 60)) := (G.rf wo).a _
      have bx : Blk (wo.alloc (.cells #[.int .i64 zbird, .int .i64 zowner, .int .i64 zrank, .int .i64 zday, .slice zpa zpools.length zpc] 60)) wo.heap.size 60 #[.int .i64 zbird, .int .i64 zowner, .int .i64 zrank, .int .i64 zday, .slice zpa zpools.length zpc] := Blk.new _ _ _
      have hgx : w3.heap.size ≤ wo.heap.size := HFR.out.size
      have HORD2 := Lib.hid (HORD.out.keepG gw)
      have HB62 := Lib.hid (HB6.out.keep gw)
      have HFR2 := Lib.hid (HFR.out.g gw)
      clear q0 q1 q2 q3 q4 lg HORD HB6 HFR gw
      change Code.wp _ _ _ _ (wo.alloc (.cells #[.int .i64 zbird, .int .i64 zowner, .int .i64 zrank, .int .i64 zday, .slice zpa zpools.length zpc] 60))
      obtain ⟨gx, hgx2⟩ : ∃ gx, gx = wo.heap.size := ⟨_, rfl⟩
      rw [← hgx2] at bx hgx ⊢
      clear hgx2
      generalize wo.alloc (.cells #[.int .i64 zbird, .int .i64 zowner, .int .i64 zrank, .int .i64 zday, .slice zpa zpools.length zpc] 60) = w2 at *
      have n2 := bx.cell 2
      have n3 := bx.cell 3
      have ln := bx.lt
      have p2 := HB62.out.cell 2
      have p3 := HB62.out.cell 3
      have lp := HB62.out.lt
      by_cases hsame : zday = bd ∧ zrank = br
      · have HT1 : Hid (sameB TT k = true) := by show _ = _; rw [hsb]; exact decide_eq_true hsame
        obtain ⟨hs1, hs2⟩ := hsame
        have hk0 : 0 < k := by
          rcases Nat.eq_zero_or_pos k with e | e
          · exact absurd (hs1.trans (h0b e)) hzd
          · exact e
        have hpos := HPO.out hk0 hk
        obtain ⟨gs, hgsE⟩ : ∃ gs, gs = grpTo TT k := ⟨_, rfl⟩
        have HQL : Hid (∀ i, (gs.getD i []).length ≤ k) := by rw [hgsE]; exact hgrw
        have HG2 : Hid (grpTo TT (k + 1) = addLast gs zbird) := by show _ = _; rw [HGS.out, if_pos HT1.out, hgsE]
        rw [← hgsE] at HORD2 hpos hglen
        clear hgsE HPO hgrw HGS HT1 hsb h0b hzd
        obtain ⟨m, hgm⟩ : ∃ m, gs.length = m + 1 := ⟨gs.length - 1, by omega⟩
        replace HQL : Hid ((gs.getD m []).length ≤ 12) := Nat.le_trans (HQL.out m) (by omega)
        obtain ⟨wt, rfl⟩ : ∃ wt, wt = w2 := ⟨_, rfl⟩
        obtain ⟨HORD, hxx⟩ : ∃ H, H = HORD2 := ⟨_, rfl⟩
        clear hxx HORD2
        subst hs1
        subst hs2
        have hout := HORD.out.out
        rw [hgm] at hout
        obtain ⟨go, vcap, vcur, rfl, hbv, hlv, htv⟩ := own_some hout (by omega)
        clear hout
        have hcl := HORD.out.len
        have hlast := HORD.out.last m (by omega)
        have hmle : m ≤ 12 := by omega
        obtain ⟨la, lc, hlw⟩ := own_slice hlast
        obtain ⟨q, hq⟩ : ∃ q, q = (gs.getD m []).length := ⟨_, rfl⟩
        rw [← hq] at hlw hlast
        rw [hlw] at hlast
        have hcell : wt.cell? ⟨go, m, none⟩ = some (.slice la q lc) := take_cell hbv htv (k := m) (by omega) (by rw [← hlw]; simp [List.getD_eq_getElem?_getD, show m < cs.length by omega])
        have hSk : ∀ W', G wt W' → (W'.cell? ⟨go, m, none⟩ = some (.slice la q lc) ∧ go < W'.heap.size) ∧ (W'.cell? ⟨gx, 0, none⟩ = some (.int .i64 zbird) ∧ gx < W'.heap.size) := fun W' hW => ⟨⟨((bcellB hW).1 go _ hlv).trans hcell, (hbv.keep hW).lt⟩, ⟨(bx.keep hW).cell 0, (bx.keep hW).lt⟩⟩
        have ga := (G.rf wt).d
        have hmi : (m : Int) < (m : Int) + 1 := by omega
        have hm1 : ((m + 1 : Nat) : Int) - 1 = (m : Int) := by omega
        have hm2 : (m : Int) + 1 - 1 = (m : Int) := by omega
        have hql : q ≤ 12 := by rw [hq]; exact HQL.out
        have HQ := Lib.hid hq
        have HLW := Lib.hid hlw
        have HCL := Lib.hid hcl
        have HL := Lib.hid hlast
        have HGM := Lib.hid hgm
        have HBV := Lib.hid hbv
        have HCELL := Lib.hid hcell
        clear hq hlw hcl hlast htv hcell hgm hbv
        go_upto_region 9 with fail
        refine wp_region_Y (S := fun W' => (W'.cell? ⟨go, m, none⟩ = some (.slice la q lc) ∧ go < W'.heap.size) ∧ (W'.cell? ⟨gx, 0, none⟩ = some (.int .i64 zbird) ∧ gx < W'.heap.size)) 11 12 rfl (by kernel_rfl) (hSk _ ga) (fun hS => ?_)
        refine wpAnyY_take (i := 0) (v := ?_) rfl (by kernel_rfl) (by kernel_rfl) (by kernel_rfl) (by kernel_rfl) (fun _ _ _ h => h) (Or.inl ⟨by kernel_rfl, ?_⟩) hS ?_
        rotate_left
        · intro w' hSw; go_simp; with_reducible rfl
        try simp only [Act.put, List.getElem_toArray, List.getElem_cons_zero, List.getElem_cons_succ, List.setIfInBounds_toArray, List.set_cons_zero, List.set_cons_succ]
        refine wpAnyY_take (i := 1) (v := ?_) rfl (by kernel_rfl) (by kernel_rfl) (by kernel_rfl) (by kernel_rfl) (fun _ _ _ h => h) (Or.inl ⟨by kernel_rfl, ?_⟩) hS ?_
        rotate_left
        · intro w' hSw; go_simp; with_reducible rfl
        try simp only [Act.put, List.getElem_toArray, List.getElem_cons_zero, List.getElem_cons_succ, List.setIfInBounds_toArray, List.set_cons_zero, List.set_cons_succ]
        refine wpAnyY_take (i := 2) (v := ?_) rfl (by kernel_rfl) (by kernel_rfl) (by kernel_rfl) (by kernel_rfl) (fun _ _ _ h => h) (Or.inl ⟨by kernel_rfl, ?_⟩) hS ?_
        rotate_left
        · intro w' hSw; go_simp; with_reducible rfl
        try simp only [Act.put, List.getElem_toArray, List.getElem_cons_zero, List.getElem_cons_succ, List.setIfInBounds_toArray, List.set_cons_zero, List.set_cons_succ]
        refine wpAnyY_take (i := 3) (v := ?_) rfl (by kernel_rfl) (by kernel_rfl) (by kernel_rfl) (by kernel_rfl) (fun _ _ _ h => h) (Or.inl ⟨by kernel_rfl, ?_⟩) hS ?_
        rotate_left
        · intro w' hSw; go_simp; with_reducible rfl
        try simp only [Act.put, List.getElem_toArray, List.getElem_cons_zero, List.getElem_cons_succ, List.setIfInBounds_toArray, List.set_cons_zero, List.set_cons_succ]
        refine wpAnyY_take (i := 4) (v := ?_) rfl (by kernel_rfl) (by kernel_rfl) (by kernel_rfl) (by kernel_rfl) (fun _ _ _ h => h) (Or.inl ⟨by kernel_rfl, ?_⟩) hS ?_
        rotate_left
        · intro w' hSw; go_simp; with_reducible rfl
        try simp only [Act.put, List.getElem_toArray, List.getElem_cons_zero, List.getElem_cons_succ, List.setIfInBounds_toArray, List.set_cons_zero, List.set_cons_succ]
        refine wpAnyY_take (i := 5) (v := ?_) rfl (by kernel_rfl) (by kernel_rfl) (by kernel_rfl) (by kernel_rfl) (fun _ _ _ h => h) (Or.inl ⟨by kernel_rfl, ?_⟩) hS ?_
        rotate_left
        · intro w' hSw; obtain ⟨⟨s0, s1⟩, ⟨u0, u1⟩⟩ := hSw; go_simp; with_reducible rfl
        try simp only [Act.put, List.getElem_toArray, List.getElem_cons_zero, List.getElem_cons_succ, List.setIfInBounds_toArray, List.set_cons_zero, List.set_cons_succ]
        refine wpAnyY_take (i := 6) (v := ?_) rfl (by kernel_rfl) (by kernel_rfl) (by kernel_rfl) (by kernel_rfl) (fun _ _ _ h => h) (Or.inl ⟨by kernel_rfl, ?_⟩) hS ?_
        rotate_left
        · intro w' hSw; go_simp; with_reducible rfl
        try simp only [Act.put, List.getElem_toArray, List.getElem_cons_zero, List.getElem_cons_succ, List.setIfInBounds_toArray, List.set_cons_zero, List.set_cons_succ]
        refine wpAnyY_take (i := 7) (v := ?_) rfl (by kernel_rfl) (by kernel_rfl) (by kernel_rfl) (by kernel_rfl) (fun _ _ _ h => h) (Or.inl ⟨by kernel_rfl, ?_⟩) hS ?_
        rotate_left
        · intro w' hSw; obtain ⟨⟨s0, s1⟩, ⟨u0, u1⟩⟩ := hSw; go_simp; with_reducible rfl
        try simp only [Act.put, List.getElem_toArray, List.getElem_cons_zero, List.getElem_cons_succ, List.setIfInBounds_toArray, List.set_cons_zero, List.set_cons_succ]
        refine wpAnyY_oneSW (i := 8) (by kernel_rfl) rfl (by kernel_rfl) (fun K8 hK8 => ?_)
        go_simp
        refine hK8.out _ _ (hSk _ (ga.a _)) (fun hS => ?_)
        try simp only [Act.put, List.getElem_toArray, List.getElem_cons_zero, List.getElem_cons_succ, List.setIfInBounds_toArray, List.set_cons_zero, List.set_cons_succ]
        have g5 : G wt (wt.alloc (.cells #[.int .i64 zbird] 3)).drew := ((G.rf wt).a _).d
        have hol := own_G HL.out g5
        have hv5 := HBV.out.keep g5
        have bx5 := bx.keep g5
        obtain ⟨i0, hi0, hz0, hz1, hz2⟩ := info_parts info3
        refine wpAnyY_oneSW (i := 9) (by kernel_rfl) rfl (by kernel_rfl) (fun K9 hK9 => ?_)
        refine wp_append_own _ _ _ 24 rfl Bl 3 i0 (.int .i64 0) 1 8 Tryz.underlying24 hi0 hz0 hz1 hz2 rfl (by decide) _ q (iv (gs.getD m [])) rfl hol ⟨wt.heap.size, 0, none⟩ 1 1 [.int .i64 zbird] rfl rfl (cell_one_new _ _ _) (by simp [Value.oneCell']) (by unfold maxLen; omega) (by omega) ?hb ?hr
        case hb => exact Nat.le_trans HORD.out.top g5.size
        case hr =>
          intro v9 w9 hown9 hg9 _
          obtain ⟨lb, lcc, rfl⟩ := own_slice hown9
          have hv9 := hv5.grown hg9 (own_ne hol hv5 (by decide))
          have hx9 := bx5.grown hg9 (own_ne hol bx5 (by decide))
          have S9 : (w9.cell? ⟨go, m, none⟩ = some (.slice la q lc) ∧ go < w9.heap.size) ∧ (w9.cell? ⟨gx, 0, none⟩ = some (.int .i64 zbird) ∧ gx < w9.heap.size) := ⟨⟨(hv9.cell m).trans ((HBV.out.cell m).symm.trans HCELL.out), hv9.lt⟩, ⟨hx9.cell 0, hx9.lt⟩⟩
          refine hK9.out _ _ S9 (fun hS => ?_)
          try simp only [Act.put, List.getElem_toArray, List.getElem_cons_zero, List.getElem_cons_succ, List.setIfInBounds_toArray, List.set_cons_zero, List.set_cons_succ]
          refine wpAnyY_take (i := 10) (v := ?_) rfl (by kernel_rfl) (by kernel_rfl) (by kernel_rfl) (by kernel_rfl) (fun _ _ _ h => h) (Or.inl ⟨by kernel_rfl, ?_⟩) hS ?_
          rotate_left
          · intro w' hSw; go_simp; with_reducible rfl
          try simp only [Act.put, List.getElem_toArray, List.getElem_cons_zero, List.getElem_cons_succ, List.setIfInBounds_toArray, List.set_cons_zero, List.set_cons_succ]
          have c6 := hv9.cell m
          have z6 := hv9.frozen m
          refine wpAnyY_oneW (i := 11) (by kernel_rfl) rfl (by kernel_rfl) (by kernel_rfl) (fun K11 hK11 => ?_)
          go_simp
          refine hK11.out _ _ ?_
          try simp only [Act.put, List.getElem_toArray, List.getElem_cons_zero, List.getElem_cons_succ, List.setIfInBounds_toArray, List.set_cons_zero, List.set_cons_succ]
          refine wpAnyY_done (by kernel_rfl) ?_ _
          have hput := (HORD.out.keepG g5).put (x := zbird) (n := m) (W' := w9) (u := .slice lb (q + 1) lcc) (go := go) HGM.out (by rw [← HQ.out, iv_snoc]; exact hown9) (by rw [HLW.out]; exact hg9) rfl rfl
          have hgo3 : w3.heap.size ≤ go := own_base HORD.out.out rfl
          have hbl := HORD.out.bl
          have frz := ((HFR2.out.g g5).grown hg9 (fun g e => .inr (Nat.le_trans hbl (own_base hol e)))).s (p := ⟨go, m, none⟩) (.inr hgo3) (.slice lb (q + 1) lcc)
          have hgxo : gx ≠ go := fun e => by
            subst e
            have := hx9.symm.trans hv9
            simp at this
          have bxz := hx9.far (p := ⟨go, m, none⟩) hgxo (.slice lb (q + 1) lcc)
          have b65 := HB62.out.keep g5
          have b6z := (b65.grown hg9 (own_ne hol b65 (by decide))).far (p := ⟨go, m, none⟩) (show w.heap.size + 1 ≠ go by omega) (.slice lb (q + 1) lcc)
          have HPUT := Lib.hid hput.1
          have HFRZ := Lib.hid frz
          have HBXZ := Lib.hid bxz
          have HB6Z := Lib.hid b6z
          have gwz : G w (w9.setCell ⟨go, m, none⟩ (.slice lb (q + 1) lcc)) := ((G.fr (R := fun _ => False) g3).t2 frz (fun i hi h => by omega)).toG (fun _ _ h => h)
          clear hput frz bxz b6z b65 hown9 hg9 hv9 hx9 c6 z6 hol hv5 bx5 g5 S9 hS hSk ga hK8 hK9 hK11 n2 n3 ln p2 p3 lp
          generalize w9.setCell ⟨go, m, none⟩ (.slice lb (q + 1) lcc) = wz at *
          go_upto_region 10 with fail
          refine wp_region_lit ?_
          refine wpList_load60 gx (.tmp 8) (REL := #[.int .i64 zbird, .int .i64 zowner, .int .i64 zrank, .int .i64 zday, .slice zpa zpools.length zpc]) ⟨_, _, _, _, _, _, _, rfl⟩ rfl rfl rfl HBXZ.out ?_
          try simp only [Act.put, List.getElem_toArray, List.getElem_cons_zero, List.getElem_cons_succ, List.setIfInBounds_toArray, List.set_cons_zero, List.set_cons_succ]
          refine wpList_store60 (w.heap.size + 1) (.tmp 6) (.tmp 48) (OLD := #[.int .i64 bb, .int .i64 bo, .int .i64 zrank, .int .i64 zday, .slice bpa bpl bpc]) (NEW := #[.int .i64 zbird, .int .i64 zowner, .int .i64 zrank, .int .i64 zday, .slice zpa zpools.length zpc]) ⟨_, _, _, _, _, _, _, rfl⟩ ⟨_, _, _, _, _, _, _, rfl⟩ rfl rfl rfl rfl HB6Z.out (fun W4 hb4 hF4 hG4 => ?_)
          try simp only [Act.put, List.getElem_toArray, List.getElem_cons_zero, List.getElem_cons_succ, List.setIfInBounds_toArray, List.set_cons_zero, List.set_cons_succ]
          have hw4 : G w W4 := hG4 w (by omega) gwz
          have hszz := HFRZ.out.size
          have FR4 := Lib.hid (Fr.away1 g3 HFRZ.out hw4 hF4 (by omega))
          have ORD4 := Lib.hid (HPUT.out.away hF4 (by omega) (size_away hF4 (by omega)))
          have HB4 := Lib.hid hb4
          clear hF4 hG4 hw4 hb4 gwz HBXZ HB6Z HPUT HFRZ
          go_wp2_with fail
          go_roundw
          case rel => exact ⟨k + 1, _, Bl, zbird, zowner, zrank, zday, zpa, zpools.length, zpc, by omega, by go_num, by rw [HG2.out]; exact ORD4.out, HB4.out, HB1.out, FR4.out⟩
          case measure => simp [intOf] <;> omega
      · have hT : Hid (sameB TT k = false) := by show _ = _; rw [hsb]; exact decide_eq_false hsame
        have HG2 : Hid (grpTo TT (k + 1) = addLast (grpTo TT k ++ [[]]) zbird) := by show _ = _; rw [HGS.out, if_neg (by rw [hT.out]; simp)]
        have HQ0 : Hid (∀ i, ((grpTo TT k ++ [[]]).getD i []).length ≤ k) := fun i => by
          by_cases h1 : i < (grpTo TT k).length
          · rw [getD_app h1]; exact hgrw.out i
          · by_cases h2 : i = (grpTo TT k).length
            · rw [getD_last h2]; simp
            · simp [List.getD_eq_getElem?_getD, List.getElem?_append, h1, show ¬ i - (grpTo TT k).length < 1 by omega]
        obtain ⟨va, vc, rfl⟩ := own_slice HORD2.out.out
        obtain ⟨g1, hg1⟩ : ∃ g1, g1 = grpTo TT k := ⟨_, rfl⟩
        rw [← hg1] at HORD2 hglen HG2 HQ0 ⊢
        clear hg1 HPO hgrw HGS hT hsb h0b hzd
        obtain ⟨m, hm⟩ : ∃ m, m = g1.length := ⟨_, rfl⟩
        have hoo := HORD2.out.out
        rw [← hm] at hoo hglen ⊢
        have HOO := Lib.hid hoo
        have HM := Lib.hid hm
        clear hoo hm
        obtain ⟨j0, hj0, hy0, hy1, hy2⟩ := info_parts info24
        by_cases h1 : zday = bd
        · have e2 : (zrank == br) = false := by simpa using fun e => hsame ⟨h1, e⟩
          subst h1
          clear hsame
          go_wp2_with (at_builtin; refine wpList_append_own _ rfl _ _ 49 rfl w3.heap.size 24 j0 (.slice none 0 0) 1 24 Tryz.underlying49 hj0 hy0 hy1 hy2 rfl (by decide) _ m cs rfl ?hown ⟨_, 0, none⟩ 1 1 [.slice none 0 0] rfl rfl (cell_one_new _ _ _) (by simp [Value.oneCell']) (by unfold maxLen; omega) (by omega) ?hbase ?hrest)
          case hown => exact own_G HOO.out ((G.rf _).a _)
          case hbase =>
            have h8 := HFR2.out.size
            omega
          case hrest =>
            intro v9 w9 hown9 hg9 _
            have ga1 : G w2 (w2.alloc (.cells #[.slice none 0 0] 24)) := (G.rf w2).a _
            have hoo1 := own_G HOO.out ga1
            have hnew := (HORD2.out.keepG ga1).new (by rw [← HM.out]; exact hown9) (by rw [← HM.out]; exact hg9) (Nat.le_trans HFR2.out.size (Nat.le_trans ga1.size hg9.size))
            obtain ⟨HORD, hxx⟩ : ∃ H, H = Lib.hid hnew := ⟨_, rfl⟩
            have hgm : (g1 ++ [[]]).length = m + 1 := by rw [List.length_append, List.length_singleton, ← HM.out]
            replace HFR2 := Lib.hid ((HFR2.out.g ga1).grown hg9 (fun g e => .inr (own_base hoo1 e)))
            have hbxa := bx.alloc (.cells #[.slice none 0 0] 24)
            replace bx := hbxa.grown hg9 (own_ne hoo1 hbxa (by decide))
            have hb6a := HB62.out.alloc (.cells #[.slice none 0 0] 24)
            replace HB62 := Lib.hid (hb6a.grown hg9 (own_ne hoo1 hb6a (by decide)))
            have HQL : Hid (((g1 ++ [[]]).getD m []).length ≤ 12) := Nat.le_trans (HQ0.out m) (by omega)
            clear hxx hnew hoo1 ga1 hbxa hb6a hown9 hg9 HORD2 HOO HQ0 n2 n3 ln p2 p3 lp
            obtain ⟨gs, hgs0⟩ : ∃ gs, gs = g1 ++ [[]] := ⟨_, rfl⟩
            rw [← hgs0] at HORD HG2 HQL hgm
            clear hgs0 HM
            obtain ⟨cs2, hcs0⟩ : ∃ c, c = cs ++ [Value.slice none 0 0] := ⟨_, rfl⟩
            rw [← hcs0] at HORD
            clear hcs0
            obtain ⟨Bl2, hBl0⟩ : ∃ b, b = w9.heap.size := ⟨_, rfl⟩
            rw [← hBl0] at HORD
            clear hBl0
            obtain ⟨wt, rfl⟩ : ∃ wt, wt = w9 := ⟨_, rfl⟩
            have hout := HORD.out.out
            rw [hgm] at hout
            obtain ⟨go, vcap, vcur, rfl, hbv, hlv, htv⟩ := own_some hout (by omega)
            clear hout
            have hcl := HORD.out.len
            have hlast := HORD.out.last m (by omega)
            have hmle : m ≤ 12 := by omega
            obtain ⟨la, lc, hlw⟩ := own_slice hlast
            obtain ⟨q, hq⟩ : ∃ q, q = (gs.getD m []).length := ⟨_, rfl⟩
            rw [← hq] at hlw hlast
            rw [hlw] at hlast
            have hcell : wt.cell? ⟨go, m, none⟩ = some (.slice la q lc) := take_cell hbv htv (k := m) (by omega) (by rw [← hlw]; simp [List.getD_eq_getElem?_getD, show m < cs2.length by omega])
            have hSk : ∀ W', G wt W' → (W'.cell? ⟨go, m, none⟩ = some (.slice la q lc) ∧ go < W'.heap.size) ∧ (W'.cell? ⟨gx, 0, none⟩ = some (.int .i64 zbird) ∧ gx < W'.heap.size) := fun W' hW => ⟨⟨((bcellB hW).1 go _ hlv).trans hcell, (hbv.keep hW).lt⟩, ⟨(bx.keep hW).cell 0, (bx.keep hW).lt⟩⟩
            have ga := (G.rf wt).d
            have hmi : (m : Int) < (m : Int) + 1 := by omega
            have hm1 : ((m + 1 : Nat) : Int) - 1 = (m : Int) := by omega
            have hm2 : (m : Int) + 1 - 1 = (m : Int) := by omega
            have hql : q ≤ 12 := by rw [hq]; exact HQL.out
            have HQ := Lib.hid hq
            have HLW := Lib.hid hlw
            have HCL := Lib.hid hcl
            have HL := Lib.hid hlast
            have HGM := Lib.hid hgm
            have HBV := Lib.hid hbv
            have HCELL := Lib.hid hcell
            clear hq hlw hcl hlast htv hcell hgm hbv
            go_upto_region 9 with fail
            refine wp_region_Y (S := fun W' => (W'.cell? ⟨go, m, none⟩ = some (.slice la q lc) ∧ go < W'.heap.size) ∧ (W'.cell? ⟨gx, 0, none⟩ = some (.int .i64 zbird) ∧ gx < W'.heap.size)) 11 12 rfl (by kernel_rfl) (hSk _ ga) (fun hS => ?_)
            refine wpAnyY_take (i := 0) (v := ?_) rfl (by kernel_rfl) (by kernel_rfl) (by kernel_rfl) (by kernel_rfl) (fun _ _ _ h => h) (Or.inl ⟨by kernel_rfl, ?_⟩) hS ?_
            rotate_left
            · intro w' hSw; go_simp; with_reducible rfl
            try simp only [Act.put, List.getElem_toArray, List.getElem_cons_zero, List.getElem_cons_succ, List.setIfInBounds_toArray, List.set_cons_zero, List.set_cons_succ]
            refine wpAnyY_take (i := 1) (v := ?_) rfl (by kernel_rfl) (by kernel_rfl) (by kernel_rfl) (by kernel_rfl) (fun _ _ _ h => h) (Or.inl ⟨by kernel_rfl, ?_⟩) hS ?_
            rotate_left
            · intro w' hSw; go_simp; with_reducible rfl
            try simp only [Act.put, List.getElem_toArray, List.getElem_cons_zero, List.getElem_cons_succ, List.setIfInBounds_toArray, List.set_cons_zero, List.set_cons_succ]
            refine wpAnyY_take (i := 2) (v := ?_) rfl (by kernel_rfl) (by kernel_rfl) (by kernel_rfl) (by kernel_rfl) (fun _ _ _ h => h) (Or.inl ⟨by kernel_rfl, ?_⟩) hS ?_
            rotate_left
            · intro w' hSw; go_simp; with_reducible rfl
            try simp only [Act.put, List.getElem_toArray, List.getElem_cons_zero, List.getElem_cons_succ, List.setIfInBounds_toArray, List.set_cons_zero, List.set_cons_succ]
            refine wpAnyY_take (i := 3) (v := ?_) rfl (by kernel_rfl) (by kernel_rfl) (by kernel_rfl) (by kernel_rfl) (fun _ _ _ h => h) (Or.inl ⟨by kernel_rfl, ?_⟩) hS ?_
            rotate_left
            · intro w' hSw; go_simp; with_reducible rfl
            try simp only [Act.put, List.getElem_toArray, List.getElem_cons_zero, List.getElem_cons_succ, List.setIfInBounds_toArray, List.set_cons_zero, List.set_cons_succ]
            refine wpAnyY_take (i := 4) (v := ?_) rfl (by kernel_rfl) (by kernel_rfl) (by kernel_rfl) (by kernel_rfl) (fun _ _ _ h => h) (Or.inl ⟨by kernel_rfl, ?_⟩) hS ?_
            rotate_left
            · intro w' hSw; go_simp; with_reducible rfl
            try simp only [Act.put, List.getElem_toArray, List.getElem_cons_zero, List.getElem_cons_succ, List.setIfInBounds_toArray, List.set_cons_zero, List.set_cons_succ]
            refine wpAnyY_take (i := 5) (v := ?_) rfl (by kernel_rfl) (by kernel_rfl) (by kernel_rfl) (by kernel_rfl) (fun _ _ _ h => h) (Or.inl ⟨by kernel_rfl, ?_⟩) hS ?_
            rotate_left
            · intro w' hSw; obtain ⟨⟨s0, s1⟩, ⟨u0, u1⟩⟩ := hSw; go_simp; with_reducible rfl
            try simp only [Act.put, List.getElem_toArray, List.getElem_cons_zero, List.getElem_cons_succ, List.setIfInBounds_toArray, List.set_cons_zero, List.set_cons_succ]
            refine wpAnyY_take (i := 6) (v := ?_) rfl (by kernel_rfl) (by kernel_rfl) (by kernel_rfl) (by kernel_rfl) (fun _ _ _ h => h) (Or.inl ⟨by kernel_rfl, ?_⟩) hS ?_
            rotate_left
            · intro w' hSw; go_simp; with_reducible rfl
            try simp only [Act.put, List.getElem_toArray, List.getElem_cons_zero, List.getElem_cons_succ, List.setIfInBounds_toArray, List.set_cons_zero, List.set_cons_succ]
            refine wpAnyY_take (i := 7) (v := ?_) rfl (by kernel_rfl) (by kernel_rfl) (by kernel_rfl) (by kernel_rfl) (fun _ _ _ h => h) (Or.inl ⟨by kernel_rfl, ?_⟩) hS ?_
            rotate_left
            · intro w' hSw; obtain ⟨⟨s0, s1⟩, ⟨u0, u1⟩⟩ := hSw; go_simp; with_reducible rfl
            try simp only [Act.put, List.getElem_toArray, List.getElem_cons_zero, List.getElem_cons_succ, List.setIfInBounds_toArray, List.set_cons_zero, List.set_cons_succ]
            refine wpAnyY_oneSW (i := 8) (by kernel_rfl) rfl (by kernel_rfl) (fun K8 hK8 => ?_)
            go_simp
            refine hK8.out _ _ (hSk _ (ga.a _)) (fun hS => ?_)
            try simp only [Act.put, List.getElem_toArray, List.getElem_cons_zero, List.getElem_cons_succ, List.setIfInBounds_toArray, List.set_cons_zero, List.set_cons_succ]
            have g5 : G wt (wt.alloc (.cells #[.int .i64 zbird] 3)).drew := ((G.rf wt).a _).d
            have hol := own_G HL.out g5
            have hv5 := HBV.out.keep g5
            have bx5 := bx.keep g5
            obtain ⟨i0, hi0, hz0, hz1, hz2⟩ := info_parts info3
            refine wpAnyY_oneSW (i := 9) (by kernel_rfl) rfl (by kernel_rfl) (fun K9 hK9 => ?_)
            refine wp_append_own _ _ _ 24 rfl Bl2 3 i0 (.int .i64 0) 1 8 Tryz.underlying24 hi0 hz0 hz1 hz2 rfl (by decide) _ q (iv (gs.getD m [])) rfl hol ⟨wt.heap.size, 0, none⟩ 1 1 [.int .i64 zbird] rfl rfl (cell_one_new _ _ _) (by simp [Value.oneCell']) (by unfold maxLen; omega) (by omega) ?hb ?hr
            case hb => exact Nat.le_trans HORD.out.top g5.size
            case hr =>
              intro vy wy howny hgy _
              obtain ⟨lb, lcc, rfl⟩ := own_slice howny
              have hvy := hv5.grown hgy (own_ne hol hv5 (by decide))
              have hx9 := bx5.grown hgy (own_ne hol bx5 (by decide))
              have S9 : (wy.cell? ⟨go, m, none⟩ = some (.slice la q lc) ∧ go < wy.heap.size) ∧ (wy.cell? ⟨gx, 0, none⟩ = some (.int .i64 zbird) ∧ gx < wy.heap.size) := ⟨⟨(hvy.cell m).trans ((HBV.out.cell m).symm.trans HCELL.out), hvy.lt⟩, ⟨hx9.cell 0, hx9.lt⟩⟩
              refine hK9.out _ _ S9 (fun hS => ?_)
              try simp only [Act.put, List.getElem_toArray, List.getElem_cons_zero, List.getElem_cons_succ, List.setIfInBounds_toArray, List.set_cons_zero, List.set_cons_succ]
              refine wpAnyY_take (i := 10) (v := ?_) rfl (by kernel_rfl) (by kernel_rfl) (by kernel_rfl) (by kernel_rfl) (fun _ _ _ h => h) (Or.inl ⟨by kernel_rfl, ?_⟩) hS ?_
              rotate_left
              · intro w' hSw; go_simp; with_reducible rfl
              try simp only [Act.put, List.getElem_toArray, List.getElem_cons_zero, List.getElem_cons_succ, List.setIfInBounds_toArray, List.set_cons_zero, List.set_cons_succ]
              have c6 := hvy.cell m
              have z6 := hvy.frozen m
              refine wpAnyY_oneW (i := 11) (by kernel_rfl) rfl (by kernel_rfl) (by kernel_rfl) (fun K11 hK11 => ?_)
              go_simp
              refine hK11.out _ _ ?_
              try simp only [Act.put, List.getElem_toArray, List.getElem_cons_zero, List.getElem_cons_succ, List.setIfInBounds_toArray, List.set_cons_zero, List.set_cons_succ]
              refine wpAnyY_done (by kernel_rfl) ?_ _
              have hput := (HORD.out.keepG g5).put (x := zbird) (n := m) (W' := wy) (u := .slice lb (q + 1) lcc) (go := go) HGM.out (by rw [← HQ.out, iv_snoc]; exact howny) (by rw [HLW.out]; exact hgy) rfl rfl
              have hgo3 : w3.heap.size ≤ go := own_base HORD.out.out rfl
              have hbl := HORD.out.bl
              have frz := ((HFR2.out.g g5).grown hgy (fun g e => .inr (Nat.le_trans hbl (own_base hol e)))).s (p := ⟨go, m, none⟩) (.inr hgo3) (.slice lb (q + 1) lcc)
              have hgxo : gx ≠ go := fun e => by
                subst e
                have := hx9.symm.trans hvy
                simp at this
              have bxz := hx9.far (p := ⟨go, m, none⟩) hgxo (.slice lb (q + 1) lcc)
              have b65 := HB62.out.keep g5
              have b6z := (b65.grown hgy (own_ne hol b65 (by decide))).far (p := ⟨go, m, none⟩) (show w.heap.size + 1 ≠ go by omega) (.slice lb (q + 1) lcc)
              have HPUT := Lib.hid hput.1
              have HFRZ := Lib.hid frz
              have HBXZ := Lib.hid bxz
              have HB6Z := Lib.hid b6z
              have gwz : G w (wy.setCell ⟨go, m, none⟩ (.slice lb (q + 1) lcc)) := ((G.fr (R := fun _ => False) g3).t2 frz (fun i hi h => by omega)).toG (fun _ _ h => h)
              clear hput frz bxz b6z b65 howny hgy hvy hx9 c6 z6 hol hv5 bx5 g5 S9 hS hSk ga hK8 hK9 hK11
              generalize wy.setCell ⟨go, m, none⟩ (.slice lb (q + 1) lcc) = wz at *
              go_upto_region 10 with fail
              refine wp_region_lit ?_
              refine wpList_load60 gx (.tmp 8) (REL := #[.int .i64 zbird, .int .i64 zowner, .int .i64 zrank, .int .i64 zday, .slice zpa zpools.length zpc]) ⟨_, _, _, _, _, _, _, rfl⟩ rfl rfl rfl HBXZ.out ?_
              try simp only [Act.put, List.getElem_toArray, List.getElem_cons_zero, List.getElem_cons_succ, List.setIfInBounds_toArray, List.set_cons_zero, List.set_cons_succ]
              refine wpList_store60 (w.heap.size + 1) (.tmp 6) (.tmp 48) (OLD := #[.int .i64 bb, .int .i64 bo, .int .i64 br, .int .i64 zday, .slice bpa bpl bpc]) (NEW := #[.int .i64 zbird, .int .i64 zowner, .int .i64 zrank, .int .i64 zday, .slice zpa zpools.length zpc]) ⟨_, _, _, _, _, _, _, rfl⟩ ⟨_, _, _, _, _, _, _, rfl⟩ rfl rfl rfl rfl HB6Z.out (fun W4 hb4 hF4 hG4 => ?_)
              try simp only [Act.put, List.getElem_toArray, List.getElem_cons_zero, List.getElem_cons_succ, List.setIfInBounds_toArray, List.set_cons_zero, List.set_cons_succ]
              have hw4 : G w W4 := hG4 w (by omega) gwz
              have hszz := HFRZ.out.size
              have FR4 := Lib.hid (Fr.away1 g3 HFRZ.out hw4 hF4 (by omega))
              have ORD4 := Lib.hid (HPUT.out.away hF4 (by omega) (size_away hF4 (by omega)))
              have HB4 := Lib.hid hb4
              clear hF4 hG4 hw4 hb4 gwz HBXZ HB6Z HPUT HFRZ
              go_wp2_with fail
              go_roundw
              case rel => exact ⟨k + 1, _, Bl2, zbird, zowner, zrank, zday, zpa, zpools.length, zpc, by omega, by go_num, by rw [HG2.out]; exact ORD4.out, HB4.out, HB1.out, FR4.out⟩
              case measure => simp [intOf] <;> omega
        · have e1 : (zday == bd) = false := by simpa using h1
          clear hsame
          go_wp2_with (at_builtin; refine wpList_append_own _ rfl _ _ 49 rfl w3.heap.size 24 j0 (.slice none 0 0) 1 24 Tryz.underlying49 hj0 hy0 hy1 hy2 rfl (by decide) _ m cs rfl ?hown ⟨_, 0, none⟩ 1 1 [.slice none 0 0] rfl rfl (cell_one_new _ _ _) (by simp [Value.oneCell']) (by unfold maxLen; omega) (by omega) ?hbase ?hrest)
          case hown => exact own_G HOO.out ((G.rf _).a _)
          case hbase =>
            have h8 := HFR2.out.size
            omega
          case hrest =>
            intro v9 w9 hown9 hg9 _
            have ga1 : G w2 (w2.alloc (.cells #[.slice none 0 0] 24)) := (G.rf w2).a _
            have hoo1 := own_G HOO.out ga1
            have hnew := (HORD2.out.keepG ga1).new (by rw [← HM.out]; exact hown9) (by rw [← HM.out]; exact hg9) (Nat.le_trans HFR2.out.size (Nat.le_trans ga1.size hg9.size))
            obtain ⟨HORD, hxx⟩ : ∃ H, H = Lib.hid hnew := ⟨_, rfl⟩
            have hgm : (g1 ++ [[]]).length = m + 1 := by rw [List.length_append, List.length_singleton, ← HM.out]
            replace HFR2 := Lib.hid ((HFR2.out.g ga1).grown hg9 (fun g e => .inr (own_base hoo1 e)))
            have hbxa := bx.alloc (.cells #[.slice none 0 0] 24)
            replace bx := hbxa.grown hg9 (own_ne hoo1 hbxa (by decide))
            have hb6a := HB62.out.alloc (.cells #[.slice none 0 0] 24)
            replace HB62 := Lib.hid (hb6a.grown hg9 (own_ne hoo1 hb6a (by decide)))
            have HQL : Hid (((g1 ++ [[]]).getD m []).length ≤ 12) := Nat.le_trans (HQ0.out m) (by omega)
            clear hxx hnew hoo1 ga1 hbxa hb6a hown9 hg9 HORD2 HOO HQ0 n2 n3 ln p2 p3 lp
            obtain ⟨gs, hgs0⟩ : ∃ gs, gs = g1 ++ [[]] := ⟨_, rfl⟩
            rw [← hgs0] at HORD HG2 HQL hgm
            clear hgs0 HM
            obtain ⟨cs2, hcs0⟩ : ∃ c, c = cs ++ [Value.slice none 0 0] := ⟨_, rfl⟩
            rw [← hcs0] at HORD
            clear hcs0
            obtain ⟨Bl2, hBl0⟩ : ∃ b, b = w9.heap.size := ⟨_, rfl⟩
            rw [← hBl0] at HORD
            clear hBl0
            obtain ⟨wt, rfl⟩ : ∃ wt, wt = w9 := ⟨_, rfl⟩
            have hout := HORD.out.out
            rw [hgm] at hout
            obtain ⟨go, vcap, vcur, rfl, hbv, hlv, htv⟩ := own_some hout (by omega)
            clear hout
            have hcl := HORD.out.len
            have hlast := HORD.out.last m (by omega)
            have hmle : m ≤ 12 := by omega
            obtain ⟨la, lc, hlw⟩ := own_slice hlast
            obtain ⟨q, hq⟩ : ∃ q, q = (gs.getD m []).length := ⟨_, rfl⟩
            rw [← hq] at hlw hlast
            rw [hlw] at hlast
            have hcell : wt.cell? ⟨go, m, none⟩ = some (.slice la q lc) := take_cell hbv htv (k := m) (by omega) (by rw [← hlw]; simp [List.getD_eq_getElem?_getD, show m < cs2.length by omega])
            have hSk : ∀ W', G wt W' → (W'.cell? ⟨go, m, none⟩ = some (.slice la q lc) ∧ go < W'.heap.size) ∧ (W'.cell? ⟨gx, 0, none⟩ = some (.int .i64 zbird) ∧ gx < W'.heap.size) := fun W' hW => ⟨⟨((bcellB hW).1 go _ hlv).trans hcell, (hbv.keep hW).lt⟩, ⟨(bx.keep hW).cell 0, (bx.keep hW).lt⟩⟩
            have ga := (G.rf wt).d
            have hmi : (m : Int) < (m : Int) + 1 := by omega
            have hm1 : ((m + 1 : Nat) : Int) - 1 = (m : Int) := by omega
            have hm2 : (m : Int) + 1 - 1 = (m : Int) := by omega
            have hql : q ≤ 12 := by rw [hq]; exact HQL.out
            have HQ := Lib.hid hq
            have HLW := Lib.hid hlw
            have HCL := Lib.hid hcl
            have HL := Lib.hid hlast
            have HGM := Lib.hid hgm
            have HBV := Lib.hid hbv
            have HCELL := Lib.hid hcell
            clear hq hlw hcl hlast htv hcell hgm hbv
            go_upto_region 9 with fail
            refine wp_region_Y (S := fun W' => (W'.cell? ⟨go, m, none⟩ = some (.slice la q lc) ∧ go < W'.heap.size) ∧ (W'.cell? ⟨gx, 0, none⟩ = some (.int .i64 zbird) ∧ gx < W'.heap.size)) 11 12 rfl (by kernel_rfl) (hSk _ ga) (fun hS => ?_)
            refine wpAnyY_take (i := 0) (v := ?_) rfl (by kernel_rfl) (by kernel_rfl) (by kernel_rfl) (by kernel_rfl) (fun _ _ _ h => h) (Or.inl ⟨by kernel_rfl, ?_⟩) hS ?_
            rotate_left
            · intro w' hSw; go_simp; with_reducible rfl
            try simp only [Act.put, List.getElem_toArray, List.getElem_cons_zero, List.getElem_cons_succ, List.setIfInBounds_toArray, List.set_cons_zero, List.set_cons_succ]
            refine wpAnyY_take (i := 1) (v := ?_) rfl (by kernel_rfl) (by kernel_rfl) (by kernel_rfl) (by kernel_rfl) (fun _ _ _ h => h) (Or.inl ⟨by kernel_rfl, ?_⟩) hS ?_
            rotate_left
            · intro w' hSw; go_simp; with_reducible rfl
            try simp only [Act.put, List.getElem_toArray, List.getElem_cons_zero, List.getElem_cons_succ, List.setIfInBounds_toArray, List.set_cons_zero, List.set_cons_succ]
            refine wpAnyY_take (i := 2) (v := ?_) rfl (by kernel_rfl) (by kernel_rfl) (by kernel_rfl) (by kernel_rfl) (fun _ _ _ h => h) (Or.inl ⟨by kernel_rfl, ?_⟩) hS ?_
            rotate_left
            · intro w' hSw; go_simp; with_reducible rfl
            try simp only [Act.put, List.getElem_toArray, List.getElem_cons_zero, List.getElem_cons_succ, List.setIfInBounds_toArray, List.set_cons_zero, List.set_cons_succ]
            refine wpAnyY_take (i := 3) (v := ?_) rfl (by kernel_rfl) (by kernel_rfl) (by kernel_rfl) (by kernel_rfl) (fun _ _ _ h => h) (Or.inl ⟨by kernel_rfl, ?_⟩) hS ?_
            rotate_left
            · intro w' hSw; go_simp; with_reducible rfl
            try simp only [Act.put, List.getElem_toArray, List.getElem_cons_zero, List.getElem_cons_succ, List.setIfInBounds_toArray, List.set_cons_zero, List.set_cons_succ]
            refine wpAnyY_take (i := 4) (v := ?_) rfl (by kernel_rfl) (by kernel_rfl) (by kernel_rfl) (by kernel_rfl) (fun _ _ _ h => h) (Or.inl ⟨by kernel_rfl, ?_⟩) hS ?_
            rotate_left
            · intro w' hSw; go_simp; with_reducible rfl
            try simp only [Act.put, List.getElem_toArray, List.getElem_cons_zero, List.getElem_cons_succ, List.setIfInBounds_toArray, List.set_cons_zero, List.set_cons_succ]
            refine wpAnyY_take (i := 5) (v := ?_) rfl (by kernel_rfl) (by kernel_rfl) (by kernel_rfl) (by kernel_rfl) (fun _ _ _ h => h) (Or.inl ⟨by kernel_rfl, ?_⟩) hS ?_
            rotate_left
            · intro w' hSw; obtain ⟨⟨s0, s1⟩, ⟨u0, u1⟩⟩ := hSw; go_simp; with_reducible rfl
            try simp only [Act.put, List.getElem_toArray, List.getElem_cons_zero, List.getElem_cons_succ, List.setIfInBounds_toArray, List.set_cons_zero, List.set_cons_succ]
            refine wpAnyY_take (i := 6) (v := ?_) rfl (by kernel_rfl) (by kernel_rfl) (by kernel_rfl) (by kernel_rfl) (fun _ _ _ h => h) (Or.inl ⟨by kernel_rfl, ?_⟩) hS ?_
            rotate_left
            · intro w' hSw; go_simp; with_reducible rfl
            try simp only [Act.put, List.getElem_toArray, List.getElem_cons_zero, List.getElem_cons_succ, List.setIfInBounds_toArray, List.set_cons_zero, List.set_cons_succ]
            refine wpAnyY_take (i := 7) (v := ?_) rfl (by kernel_rfl) (by kernel_rfl) (by kernel_rfl) (by kernel_rfl) (fun _ _ _ h => h) (Or.inl ⟨by kernel_rfl, ?_⟩) hS ?_
            rotate_left
            · intro w' hSw; obtain ⟨⟨s0, s1⟩, ⟨u0, u1⟩⟩ := hSw; go_simp; with_reducible rfl
            try simp only [Act.put, List.getElem_toArray, List.getElem_cons_zero, List.getElem_cons_succ, List.setIfInBounds_toArray, List.set_cons_zero, List.set_cons_succ]
            refine wpAnyY_oneSW (i := 8) (by kernel_rfl) rfl (by kernel_rfl) (fun K8 hK8 => ?_)
            go_simp
            refine hK8.out _ _ (hSk _ (ga.a _)) (fun hS => ?_)
            try simp only [Act.put, List.getElem_toArray, List.getElem_cons_zero, List.getElem_cons_succ, List.setIfInBounds_toArray, List.set_cons_zero, List.set_cons_succ]
            have g5 : G wt (wt.alloc (.cells #[.int .i64 zbird] 3)).drew := ((G.rf wt).a _).d
            have hol := own_G HL.out g5
            have hv5 := HBV.out.keep g5
            have bx5 := bx.keep g5
            obtain ⟨i0, hi0, hz0, hz1, hz2⟩ := info_parts info3
            refine wpAnyY_oneSW (i := 9) (by kernel_rfl) rfl (by kernel_rfl) (fun K9 hK9 => ?_)
            refine wp_append_own _ _ _ 24 rfl Bl2 3 i0 (.int .i64 0) 1 8 Tryz.underlying24 hi0 hz0 hz1 hz2 rfl (by decide) _ q (iv (gs.getD m [])) rfl hol ⟨wt.heap.size, 0, none⟩ 1 1 [.int .i64 zbird] rfl rfl (cell_one_new _ _ _) (by simp [Value.oneCell']) (by unfold maxLen; omega) (by omega) ?hb ?hr
            case hb => exact Nat.le_trans HORD.out.top g5.size
            case hr =>
              intro vy wy howny hgy _
              obtain ⟨lb, lcc, rfl⟩ := own_slice howny
              have hvy := hv5.grown hgy (own_ne hol hv5 (by decide))
              have hx9 := bx5.grown hgy (own_ne hol bx5 (by decide))
              have S9 : (wy.cell? ⟨go, m, none⟩ = some (.slice la q lc) ∧ go < wy.heap.size) ∧ (wy.cell? ⟨gx, 0, none⟩ = some (.int .i64 zbird) ∧ gx < wy.heap.size) := ⟨⟨(hvy.cell m).trans ((HBV.out.cell m).symm.trans HCELL.out), hvy.lt⟩, ⟨hx9.cell 0, hx9.lt⟩⟩
              refine hK9.out _ _ S9 (fun hS => ?_)
              try simp only [Act.put, List.getElem_toArray, List.getElem_cons_zero, List.getElem_cons_succ, List.setIfInBounds_toArray, List.set_cons_zero, List.set_cons_succ]
              refine wpAnyY_take (i := 10) (v := ?_) rfl (by kernel_rfl) (by kernel_rfl) (by kernel_rfl) (by kernel_rfl) (fun _ _ _ h => h) (Or.inl ⟨by kernel_rfl, ?_⟩) hS ?_
              rotate_left
              · intro w' hSw; go_simp; with_reducible rfl
              try simp only [Act.put, List.getElem_toArray, List.getElem_cons_zero, List.getElem_cons_succ, List.setIfInBounds_toArray, List.set_cons_zero, List.set_cons_succ]
              have c6 := hvy.cell m
              have z6 := hvy.frozen m
              refine wpAnyY_oneW (i := 11) (by kernel_rfl) rfl (by kernel_rfl) (by kernel_rfl) (fun K11 hK11 => ?_)
              go_simp
              refine hK11.out _ _ ?_
              try simp only [Act.put, List.getElem_toArray, List.getElem_cons_zero, List.getElem_cons_succ, List.setIfInBounds_toArray, List.set_cons_zero, List.set_cons_succ]
              refine wpAnyY_done (by kernel_rfl) ?_ _
              have hput := (HORD.out.keepG g5).put (x := zbird) (n := m) (W' := wy) (u := .slice lb (q + 1) lcc) (go := go) HGM.out (by rw [← HQ.out, iv_snoc]; exact howny) (by rw [HLW.out]; exact hgy) rfl rfl
              have hgo3 : w3.heap.size ≤ go := own_base HORD.out.out rfl
              have hbl := HORD.out.bl
              have frz := ((HFR2.out.g g5).grown hgy (fun g e => .inr (Nat.le_trans hbl (own_base hol e)))).s (p := ⟨go, m, none⟩) (.inr hgo3) (.slice lb (q + 1) lcc)
              have hgxo : gx ≠ go := fun e => by
                subst e
                have := hx9.symm.trans hvy
                simp at this
              have bxz := hx9.far (p := ⟨go, m, none⟩) hgxo (.slice lb (q + 1) lcc)
              have b65 := HB62.out.keep g5
              have b6z := (b65.grown hgy (own_ne hol b65 (by decide))).far (p := ⟨go, m, none⟩) (show w.heap.size + 1 ≠ go by omega) (.slice lb (q + 1) lcc)
              have HPUT := Lib.hid hput.1
              have HFRZ := Lib.hid frz
              have HBXZ := Lib.hid bxz
              have HB6Z := Lib.hid b6z
              have gwz : G w (wy.setCell ⟨go, m, none⟩ (.slice lb (q + 1) lcc)) := ((G.fr (R := fun _ => False) g3).t2 frz (fun i hi h => by omega)).toG (fun _ _ h => h)
              clear hput frz bxz b6z b65 howny hgy hvy hx9 c6 z6 hol hv5 bx5 g5 S9 hS hSk ga hK8 hK9 hK11
              generalize wy.setCell ⟨go, m, none⟩ (.slice lb (q + 1) lcc) = wz at *
              go_upto_region 10 with fail
              refine wp_region_lit ?_
              refine wpList_load60 gx (.tmp 8) (REL := #[.int .i64 zbird, .int .i64 zowner, .int .i64 zrank, .int .i64 zday, .slice zpa zpools.length zpc]) ⟨_, _, _, _, _, _, _, rfl⟩ rfl rfl rfl HBXZ.out ?_
              try simp only [Act.put, List.getElem_toArray, List.getElem_cons_zero, List.getElem_cons_succ, List.setIfInBounds_toArray, List.set_cons_zero, List.set_cons_succ]
              refine wpList_store60 (w.heap.size + 1) (.tmp 6) (.tmp 48) (OLD := #[.int .i64 bb, .int .i64 bo, .int .i64 br, .int .i64 bd, .slice bpa bpl bpc]) (NEW := #[.int .i64 zbird, .int .i64 zowner, .int .i64 zrank, .int .i64 zday, .slice zpa zpools.length zpc]) ⟨_, _, _, _, _, _, _, rfl⟩ ⟨_, _, _, _, _, _, _, rfl⟩ rfl rfl rfl rfl HB6Z.out (fun W4 hb4 hF4 hG4 => ?_)
              try simp only [Act.put, List.getElem_toArray, List.getElem_cons_zero, List.getElem_cons_succ, List.setIfInBounds_toArray, List.set_cons_zero, List.set_cons_succ]
              have hw4 : G w W4 := hG4 w (by omega) gwz
              have hszz := HFRZ.out.size
              have FR4 := Lib.hid (Fr.away1 g3 HFRZ.out hw4 hF4 (by omega))
              have ORD4 := Lib.hid (HPUT.out.away hF4 (by omega) (size_away hF4 (by omega)))
              have HB4 := Lib.hid hb4
              clear hF4 hG4 hw4 hb4 gwz HBXZ HB6Z HPUT HFRZ
              go_wp2_with fail
              go_roundw
              case rel => exact ⟨k + 1, _, Bl2, zbird, zowner, zrank, zday, zpa, zpools.length, zpc, by omega, by go_num, by rw [HG2.out]; exact ORD4.out, HB4.out, HB1.out, FR4.out⟩
              case measure => simp [intOf] <;> omega
    · obtain rfl : k = TT.length := by omega
      have hki : ¬ ((TT.length : Nat) : Int) < TT.length := by omega
      have gz : G w wo := ((G.fr (R := fun _ => False) g3).t2 HFR.out (fun i hi h => by omega)).toG (fun _ _ h => h)
      obtain ⟨va, vc, rfl⟩ := own_slice HORD.out.out
      have HF := Lib.hid (HP.out wo _ cs Bl (HORD.out.weaken g3.size) gz)
      clear HP
      go_wp2_with fail
      first | exact HF.out | (go_ret; exact HF.out)
end Go.Proofs.YtnkmcoljijmgpaaGreat
