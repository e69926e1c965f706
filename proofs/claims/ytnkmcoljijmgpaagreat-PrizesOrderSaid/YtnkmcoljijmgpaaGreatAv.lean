import Derived.Test.YtnkmcoljijmgpaaGreatAu
set_option linter.unusedSimpArgs false
set_option linter.unusedVariables false
namespace Go.Proofs.YtnkmcoljijmgpaaGreat
open Go.RowKit Go.Shelf Go.Sort
attribute [local go_sem] Oper.semAt_some
set_option maxRecDepth 100000 in
set_option maxHeartbeats 8000000 in
theorem question_any (r : Ra) (p : Int) (bs : List Int) (ba : Option Addr) (bc : Nat) (w : World) (h : r.At w) (hb : IntsAt w ba bs) (hl : bs.length ≤ 1000) : Calls Tryz.prog 46 #[.agg r.v, .int .i64 p, .slice ba bs.length bc] w (QPost r p bs w) := by
  have HC := Lib.hid (fun (W : World) (hW : G w W) => Check_any r W (h.keep hW))
  have HI := Lib.hid (fun (W : World) (hW : G w W) => isPool_any r p W h.np)
  have HO := Lib.hid (fun (W : World) (hW : G w W) (q : Nat) (hq : q < r.pools.length) (hr : raceB r = true) => open_any r q W (h.keep hW) hq (uniq_of (race_parts hr)).2 (uniq_of (race_parts hr)).1)
  have HE := Lib.hid (fun (W : World) (hW : G w W) (K : Nat) (fv : Array Value) (fa : Option Addr) (fc : Nat) (hK : Blk W K 85 fv) (h6 : fv[6]? = some (.slice fa (runners r p).length fc)) (hrow : RowE Rc.v 5 W fa (runners r p)) (hlr : (runners r p).length ≤ 1000) => eachInt_any 72 (enters_of Tryz.func72 (by kernel_rfl) rfl) #[.pointer (some ⟨K, 0, none⟩)] W ba bc bs (fun i => hasB (runners r p) (bs.getD i 0)) hl (hb.below hW) (fun W' hW' i hi => has72 (runners r p) fa fc _ K fv W' (hK.keep hW') h6 (hrow.below hW') hlr))
  have hz : ∀ (n : Int), qE r p bs = n → n ≠ 0 → ∀ W', G w W' → QPost r p bs w (.returned (.tuple #[.agg fu0, .int .i64 n])) W' := fun n e hn W' hG => ⟨hG, .inl ⟨by rw [e]; exact hn, by rw [e]⟩⟩
  have HZ := Lib.hid hz
  clear hz
  have HS : Hid (qE r p bs = 0 → ∀ W' fa fc, G w W' → W'.ownsRow w.heap.size 60 5 (.slice fa (runners r p).length fc) (runners r p).length (rcV (runners r p)) → QPost r p bs w (.returned (.tuple #[.agg (fuOf r p fa fc).v, .int .i64 0])) W') := fun e W' fa fc hG ho => ⟨hG, .inr ⟨e, fa, fc, rfl, ho⟩⟩
  have hlen : raceB r = true → (runners r p).length ≤ 12 := fun hr => by
    unfold runners
    rw [srt_len]
    exact Nat.le_trans (List.length_filter_le _ _) (uniq_of (race_parts hr)).1
  have HLN := Lib.hid hlen
  have hqe : qE r p bs = if raceB r = true then (if isInB p 0 ((r.pools.length : Int) - 1) = true then (if allU (fun i => hasB (runners r p) (bs.getD i 0)) bs.length = true then 0 else 1) else 1) else 80 := rfl
  have HFU : Hid (∀ fa fc, (fuOf r p fa fc) = ⟨poolAt r p, fa, fc, runners r p, r.ta, r.tc, r.protests⟩) := fun _ _ => rfl
  clear hlen h hb
  unfold chk8 at HC
  generalize qE r p bs = QE at *
  generalize QPost r p bs w = PP at *
  generalize allU (fun i => hasB (runners r p) (bs.getD i 0)) bs.length = AL at *
  obtain ⟨W1, hW1⟩ : ∃ W1, W1 = (w.alloc (.cells r.v 26)).alloc (.cells #[.int .i64 0, .int .i64 0, .int .i64 0, .slice none 0 0, .int .i64 0, .bool false, .slice none 0 0, .slice none 0 0] 85) := ⟨_, rfl⟩
  have g0 : G w W1 := by rw [hW1]; exact ((G.rf _).a _).a _
  have b0 : Blk W1 w.heap.size 26 r.v := by rw [hW1]; exact (Blk.new _ _ _).alloc _
  have b1 : Blk W1 (w.heap.size + 1) 85 #[.int .i64 0, .int .i64 0, .int .i64 0, .slice none 0 0, .int .i64 0, .bool false, .slice none 0 0, .slice none 0 0] := by rw [hW1]; exact Blk.new1 _ _ _ _
  have m0 : W1.cell? ⟨w.heap.size, 0, none⟩ = some (.slice r.ra r.racers.length r.rc) := b0.cell 0
  have m1 : W1.cell? ⟨w.heap.size, 1, none⟩ = some (.slice r.pa r.pools.length r.pc) := b0.cell 1
  have m2 : W1.cell? ⟨w.heap.size, 2, none⟩ = some (.slice r.ta r.protests.length r.tc) := b0.cell 2
  have l0 := b0.lt
  have hrv : r.v = #[.slice r.ra r.racers.length r.rc, .slice r.pa r.pools.length r.pc, .slice r.ta r.protests.length r.tc] := rfl
  rw [hrv] at HC HI HO b0 hW1 ⊢
  clear hrv
  cases hB : raceB r
  · rw [hB] at HC hqe
    have hq80 : QE = 80 := by simpa using hqe
    have HC2 := Lib.hid (HC.out W1 g0)
    simp only [Bool.false_eq_true, if_false] at HC2
    clear hqe hB HC
    go_enter Tryz.func46, Tryz.ntmps46
    go_upto_region 1 with fail
    change Code.wp _ _ _ _ ((w.alloc (.cells _ 26)).alloc (.cells #[.int .i64 0, .int .i64 0, .int .i64 0, .slice none 0 0, .int .i64 0, .bool false, .slice none 0 0, .slice none 0 0] 85))
    rw [← hW1]
    clear hW1
    go_upto_region 3 with (go_at_call 34; refine (HC2.out).mono ?_; rintro e w2 ⟨rfl, hG2⟩)
    have b12 := b1.keep hG2
    clear m0 m1 m2 l0
    refine wp_region_lit ?_
    refine wpList_plain rfl fun K hK => ?_
    go_simp
    refine hK _ _ ?_
    clear hK
    try simp only [Act.put, List.getElem_toArray, List.getElem_cons_zero, List.getElem_cons_succ, List.setIfInBounds_toArray, List.set_cons_zero, List.set_cons_succ]
    refine wpList_plain rfl fun K hK => ?_
    go_simp
    refine hK _ _ ?_
    clear hK
    try simp only [Act.put, List.getElem_toArray, List.getElem_cons_zero, List.getElem_cons_succ, List.setIfInBounds_toArray, List.set_cons_zero, List.set_cons_succ]
    refine wpList_store85 (w.heap.size + 1) (.tmp 6) (.tmp 14) (OLD := #[.int .i64 0, .int .i64 0, .int .i64 0, .slice none 0 0, .int .i64 0, .bool false, .slice none 0 0, .slice none 0 0]) (NEW := #[.int .i64 0, .int .i64 0, .int .i64 0, .slice none 0 0, .int .i64 0, .bool false, .slice none 0 0, .slice none 0 0]) ⟨_, _, _, _, _, _, _, _, _, _, _, _, _, _, rfl⟩ ⟨_, _, _, _, _, _, _, _, _, _, _, _, _, _, rfl⟩ rfl rfl rfl rfl b12 (fun W9 hb9 hF9 hG9 => ?_)
    try simp only [Act.put, List.getElem_toArray, List.getElem_cons_zero, List.getElem_cons_succ, List.setIfInBounds_toArray, List.set_cons_zero, List.set_cons_succ]
    have g9 : G w W9 := hG9 w (by omega) (g0.t hG2)
    have HF := Lib.hid (HZ.out 80 hq80 (by decide) W9 g9)
    clear hF9 hG9 g9
    go_wp2_with fail
    try simp only [Exit.inBlock, Exit.then]
    refine bodyPost_ret (res46 _ _ (w.heap.size + 1) 80 (REL := #[.int .i64 0, .int .i64 0, .int .i64 0, .slice none 0 0, .int .i64 0, .bool false, .slice none 0 0, .slice none 0 0]) ⟨_, _, _, _, _, _, _, _, _, _, _, _, _, _, rfl⟩ rfl rfl hb9) rfl ?_
    exact HF.out
  · rw [hB] at HC hqe
    have HC2 := Lib.hid (HC.out W1 g0)
    simp only [if_true] at HC2 hqe
    cases hI : isInB p 0 ((r.pools.length : Int) - 1)
    · rw [hI] at HI hqe
      have hq1 : QE = 1 := by simpa using hqe
      clear hqe hB hI HC HO HE HS HLN
      go_enter Tryz.func46, Tryz.ntmps46
      go_upto_region 1 with fail
      change Code.wp _ _ _ _ ((w.alloc (.cells _ 26)).alloc (.cells #[.int .i64 0, .int .i64 0, .int .i64 0, .slice none 0 0, .int .i64 0, .bool false, .slice none 0 0, .slice none 0 0] 85))
      rw [← hW1]
      clear hW1
      go_upto_region 5 with (first | (go_at_call 34; refine (HC2.out).mono ?_; rintro e w2 ⟨rfl, hG2⟩; clear m0 m1 m2 l0; have b02 := b0.keep hG2; have b12 := b1.keep hG2; have g2 := g0.t hG2; have m0 := b02.cell 0; have m1 := b02.cell 1; have m2 := b02.cell 2; have l0 := b02.lt) | (go_at_call 70; refine (HI.out _ g2).mono ?_; rintro e w3 ⟨rfl, hG3⟩))
      have b13 := b12.keep hG3
      clear m0 m1 m2 l0
      refine wp_region_lit ?_
      refine wpList_plain rfl fun K hK => ?_
      go_simp
      refine hK _ _ ?_
      clear hK
      try simp only [Act.put, List.getElem_toArray, List.getElem_cons_zero, List.getElem_cons_succ, List.setIfInBounds_toArray, List.set_cons_zero, List.set_cons_succ]
      refine wpList_store85 (w.heap.size + 1) (.tmp 6) (.tmp 20) (OLD := #[.int .i64 0, .int .i64 0, .int .i64 0, .slice none 0 0, .int .i64 0, .bool false, .slice none 0 0, .slice none 0 0]) (NEW := #[.int .i64 0, .int .i64 0, .int .i64 0, .slice none 0 0, .int .i64 0, .bool false, .slice none 0 0, .slice none 0 0]) ⟨_, _, _, _, _, _, _, _, _, _, _, _, _, _, rfl⟩ ⟨_, _, _, _, _, _, _, _, _, _, _, _, _, _, rfl⟩ rfl rfl rfl rfl b13 (fun W9 hb9 hF9 hG9 => ?_)
      try simp only [Act.put, List.getElem_toArray, List.getElem_cons_zero, List.getElem_cons_succ, List.setIfInBounds_toArray, List.set_cons_zero, List.set_cons_succ]
      have g9 : G w W9 := hG9 w (by omega) (g2.t hG3)
      have HF := Lib.hid (HZ.out 1 hq1 (by decide) W9 g9)
      clear hF9 hG9 g9
      go_wp2_with fail
      try simp only [Exit.inBlock, Exit.then]
      refine bodyPost_ret (res46 _ _ (w.heap.size + 1) 1 (REL := #[.int .i64 0, .int .i64 0, .int .i64 0, .slice none 0 0, .int .i64 0, .bool false, .slice none 0 0, .slice none 0 0]) ⟨_, _, _, _, _, _, _, _, _, _, _, _, _, _, rfl⟩ rfl rfl hb9) rfl ?_
      exact HF.out
    · have hp : 0 ≤ p ∧ p ≤ (r.pools.length : Int) - 1 := by
        unfold isInB at hI
        simpa using hI
      rw [hI] at HI hqe
      obtain ⟨pn, rfl⟩ : ∃ pn : Nat, p = (pn : Int) := ⟨p.toNat, by omega⟩
      simp only [if_true] at hqe
      obtain ⟨y, hy⟩ : ∃ y, y = poolAt r (pn : Int) := ⟨_, rfl⟩
      obtain ⟨ystake, ycut, ykind, yta, ytc, ytable, yquota, yfirst⟩ := y
      have hv : ∀ fa fc, Fu.v ⟨poolAt r (pn : Int), fa, fc, runners r pn, r.ta, r.tc, r.protests⟩ = #[.int .i64 ystake, .int .i64 ycut, .int .i64 ykind, .slice yta ytable.length ytc, .int .i64 yquota, .bool yfirst, .slice fa (runners r pn).length fc, .slice r.ta r.protests.length r.tc] := fun fa fc => by rw [← hy]; rfl
      have HO2 : Hid (∀ (W : World) (hW : G w W), Calls Tryz.prog 53 #[.agg #[.slice r.ra r.racers.length r.rc, .slice r.pa r.pools.length r.pc, .slice r.ta r.protests.length r.tc], .int .i64 (pn : Nat)] W fun e w' => ∃ fa fc, e = .returned (.agg #[.int .i64 ystake, .int .i64 ycut, .int .i64 ykind, .slice yta ytable.length ytc, .int .i64 yquota, .bool yfirst, .slice fa (runners r pn).length fc, .slice r.ta r.protests.length r.tc]) ∧ w'.ownsRow W.heap.size 60 5 (.slice fa (runners r pn).length fc) (runners r pn).length (rcV (runners r pn)) ∧ G W w') := fun W hW => by
        refine (HO.out W hW pn (by omega) hB).mono ?_
        rintro e w' ⟨fa, fc, rfl, a, b⟩
        exact ⟨fa, fc, by rw [hv], a, b⟩
      have HV := Lib.hid hv
      clear hv hy
      have hrl := HLN.out hB
      clear hB hI HC HO HLN hp
      cases AL
      · have hq1 : QE = 1 := by simpa using hqe
        clear hqe HS
        go_enter Tryz.func46, Tryz.ntmps46
        go_upto_region 1 with fail
        change Code.wp _ _ _ _ ((w.alloc (.cells _ 26)).alloc (.cells #[.int .i64 0, .int .i64 0, .int .i64 0, .slice none 0 0, .int .i64 0, .bool false, .slice none 0 0, .slice none 0 0] 85))
        rw [← hW1]
        clear hW1
        go_upto_region 7 with (first | (go_at_call 34; refine (HC2.out).mono ?_; rintro e w2 ⟨rfl, hG2⟩; clear m0 m1 m2 l0; have b02 := b0.keep hG2; have b12 := b1.keep hG2; have g2 := g0.t hG2; have m0 := b02.cell 0; have m1 := b02.cell 1; have m2 := b02.cell 2; have l0 := b02.lt) | (go_at_call 70; refine (HI.out _ g2).mono ?_; rintro e w3 ⟨rfl, hG3⟩; clear m0 m1 m2 l0; have b03 := b02.keep hG3; have b13 := b12.keep hG3; have g3 := g2.t hG3; have m0 := b03.cell 0; have m1 := b03.cell 1; have m2 := b03.cell 2; have l0 := b03.lt) | (go_at_call 53; refine (HO2.out _ g3).mono ?_; rintro e w4 ⟨fa, fc, rfl, ho4, hG4⟩))
        have b14 := b13.keep hG4
        have g4 := g3.t hG4
        have g4w := g3.size
        clear m0 m1 m2 l0
        have bk : Blk (w4.alloc (.cells #[.int .i64 ystake, .int .i64 ycut, .int .i64 ykind, .slice yta ytable.length ytc, .int .i64 yquota, .bool yfirst, .slice fa (runners r pn).length fc, .slice r.ta r.protests.length r.tc] 85)) w4.heap.size 85 #[.int .i64 ystake, .int .i64 ycut, .int .i64 ykind, .slice yta ytable.length ytc, .int .i64 yquota, .bool yfirst, .slice fa (runners r pn).length fc, .slice r.ta r.protests.length r.tc] := Blk.new _ _ _
        have g5 : G w (w4.alloc (.cells #[.int .i64 ystake, .int .i64 ycut, .int .i64 ykind, .slice yta ytable.length ytc, .int .i64 yquota, .bool yfirst, .slice fa (runners r pn).length fc, .slice r.ta r.protests.length r.tc] 85)) := g4.a _
        have b15 := b14.alloc (.cells #[.int .i64 ystake, .int .i64 ycut, .int .i64 ykind, .slice yta ytable.length ytc, .int .i64 yquota, .bool yfirst, .slice fa (runners r pn).length fc, .slice r.ta r.protests.length r.tc] 85)
        have ho5 := own_G ho4 ((G.rf w4).a (.cells #[.int .i64 ystake, .int .i64 ycut, .int .i64 ykind, .slice yta ytable.length ytc, .int .i64 yquota, .bool yfirst, .slice fa (runners r pn).length fc, .slice r.ta r.protests.length r.tc] 85))
        obtain ⟨a0, c0, hve, hrow⟩ := own_row ho5
        obtain ⟨rfl, rfl⟩ : fa = a0 ∧ fc = c0 := by simpa using hve
        have HEK := Lib.hid (HE.out _ g5 w4.heap.size _ fa fc bk rfl hrow (by omega))
        change Code.wp _ _ _ _ (w4.alloc (.cells #[.int .i64 ystake, .int .i64 ycut, .int .i64 ykind, .slice yta ytable.length ytc, .int .i64 yquota, .bool yfirst, .slice fa (runners r pn).length fc, .slice r.ta r.protests.length r.tc] 85))
        clear hve hrow ho4 b14 b13 b12 b1 HE
        generalize hw5 : w4.alloc (.cells #[.int .i64 ystake, .int .i64 ycut, .int .i64 ykind, .slice yta ytable.length ytc, .int .i64 yquota, .bool yfirst, .slice fa (runners r pn).length fc, .slice r.ta r.protests.length r.tc] 85) = w5 at *
        clear hw5
        go_upto_region 8 with (go_at_call 71; refine (HEK.out).mono ?_; rintro e w6 ⟨rfl, hG6⟩)
        have b16 := b15.keep hG6
        refine wp_region_lit ?_
        refine wpList_plain rfl fun K hK => ?_
        go_simp
        refine hK _ _ ?_
        clear hK
        try simp only [Act.put, List.getElem_toArray, List.getElem_cons_zero, List.getElem_cons_succ, List.setIfInBounds_toArray, List.set_cons_zero, List.set_cons_succ]
        refine wpList_store85 (w.heap.size + 1) (.tmp 6) (.tmp 28) (OLD := #[.int .i64 0, .int .i64 0, .int .i64 0, .slice none 0 0, .int .i64 0, .bool false, .slice none 0 0, .slice none 0 0]) (NEW := #[.int .i64 0, .int .i64 0, .int .i64 0, .slice none 0 0, .int .i64 0, .bool false, .slice none 0 0, .slice none 0 0]) ⟨_, _, _, _, _, _, _, _, _, _, _, _, _, _, rfl⟩ ⟨_, _, _, _, _, _, _, _, _, _, _, _, _, _, rfl⟩ rfl rfl rfl rfl b16 (fun W9 hb9 hF9 hG9 => ?_)
        try simp only [Act.put, List.getElem_toArray, List.getElem_cons_zero, List.getElem_cons_succ, List.setIfInBounds_toArray, List.set_cons_zero, List.set_cons_succ]
        have g9 : G w W9 := hG9 w (by omega) (g5.t hG6)
        have HF := Lib.hid (HZ.out 1 hq1 (by decide) W9 g9)
        clear hF9 hG9 g9
        go_wp2_with fail
        try simp only [Exit.inBlock, Exit.then]
        refine bodyPost_ret (res46 _ _ (w.heap.size + 1) 1 (REL := #[.int .i64 0, .int .i64 0, .int .i64 0, .slice none 0 0, .int .i64 0, .bool false, .slice none 0 0, .slice none 0 0]) ⟨_, _, _, _, _, _, _, _, _, _, _, _, _, _, rfl⟩ rfl rfl hb9) rfl ?_
        exact HF.out
      · have hq0 : QE = 0 := by simpa using hqe
        clear hqe HZ
        go_enter Tryz.func46, Tryz.ntmps46
        go_upto_region 1 with fail
        change Code.wp _ _ _ _ ((w.alloc (.cells _ 26)).alloc (.cells #[.int .i64 0, .int .i64 0, .int .i64 0, .slice none 0 0, .int .i64 0, .bool false, .slice none 0 0, .slice none 0 0] 85))
        rw [← hW1]
        clear hW1
        go_upto_region 7 with (first | (go_at_call 34; refine (HC2.out).mono ?_; rintro e w2 ⟨rfl, hG2⟩; clear m0 m1 m2 l0; have b02 := b0.keep hG2; have b12 := b1.keep hG2; have g2 := g0.t hG2; have m0 := b02.cell 0; have m1 := b02.cell 1; have m2 := b02.cell 2; have l0 := b02.lt) | (go_at_call 70; refine (HI.out _ g2).mono ?_; rintro e w3 ⟨rfl, hG3⟩; clear m0 m1 m2 l0; have b03 := b02.keep hG3; have b13 := b12.keep hG3; have g3 := g2.t hG3; have m0 := b03.cell 0; have m1 := b03.cell 1; have m2 := b03.cell 2; have l0 := b03.lt) | (go_at_call 53; refine (HO2.out _ g3).mono ?_; rintro e w4 ⟨fa, fc, rfl, ho4, hG4⟩))
        have b14 := b13.keep hG4
        have g4 := g3.t hG4
        have g4w := g3.size
        clear m0 m1 m2 l0
        have bk : Blk (w4.alloc (.cells #[.int .i64 ystake, .int .i64 ycut, .int .i64 ykind, .slice yta ytable.length ytc, .int .i64 yquota, .bool yfirst, .slice fa (runners r pn).length fc, .slice r.ta r.protests.length r.tc] 85)) w4.heap.size 85 #[.int .i64 ystake, .int .i64 ycut, .int .i64 ykind, .slice yta ytable.length ytc, .int .i64 yquota, .bool yfirst, .slice fa (runners r pn).length fc, .slice r.ta r.protests.length r.tc] := Blk.new _ _ _
        have g5 : G w (w4.alloc (.cells #[.int .i64 ystake, .int .i64 ycut, .int .i64 ykind, .slice yta ytable.length ytc, .int .i64 yquota, .bool yfirst, .slice fa (runners r pn).length fc, .slice r.ta r.protests.length r.tc] 85)) := g4.a _
        have b15 := b14.alloc (.cells #[.int .i64 ystake, .int .i64 ycut, .int .i64 ykind, .slice yta ytable.length ytc, .int .i64 yquota, .bool yfirst, .slice fa (runners r pn).length fc, .slice r.ta r.protests.length r.tc] 85)
        have ho5 := own_G ho4 ((G.rf w4).a (.cells #[.int .i64 ystake, .int .i64 ycut, .int .i64 ykind, .slice yta ytable.length ytc, .int .i64 yquota, .bool yfirst, .slice fa (runners r pn).length fc, .slice r.ta r.protests.length r.tc] 85))
        obtain ⟨a0, c0, hve, hrow⟩ := own_row ho5
        obtain ⟨rfl, rfl⟩ : fa = a0 ∧ fc = c0 := by simpa using hve
        have HEK := Lib.hid (HE.out _ g5 w4.heap.size _ fa fc bk rfl hrow (by omega))
        change Code.wp _ _ _ _ (w4.alloc (.cells #[.int .i64 ystake, .int .i64 ycut, .int .i64 ykind, .slice yta ytable.length ytc, .int .i64 yquota, .bool yfirst, .slice fa (runners r pn).length fc, .slice r.ta r.protests.length r.tc] 85))
        clear hve hrow ho4 b14 b13 b12 b1 HE
        generalize hw5 : w4.alloc (.cells #[.int .i64 ystake, .int .i64 ycut, .int .i64 ykind, .slice yta ytable.length ytc, .int .i64 yquota, .bool yfirst, .slice fa (runners r pn).length fc, .slice r.ta r.protests.length r.tc] 85) = w5 at *
        clear hw5
        go_upto_region 9 with (go_at_call 71; refine (HEK.out).mono ?_; rintro e w6 ⟨rfl, hG6⟩)
        have b16 := b15.keep hG6
        have bk6 := bk.keep hG6
        have ho6 := own_G ho5 hG6
        refine wp_region_lit ?_
        refine wpList_load85 w4.heap.size (.tmp 9) (REL := #[.int .i64 ystake, .int .i64 ycut, .int .i64 ykind, .slice yta ytable.length ytc, .int .i64 yquota, .bool yfirst, .slice fa (runners r pn).length fc, .slice r.ta r.protests.length r.tc]) ⟨_, _, _, _, _, _, _, _, _, _, _, _, _, _, rfl⟩ rfl rfl rfl bk6 ?_
        try simp only [Act.put, List.getElem_toArray, List.getElem_cons_zero, List.getElem_cons_succ, List.setIfInBounds_toArray, List.set_cons_zero, List.set_cons_succ]
        refine wpList_store85 (w.heap.size + 1) (.tmp 6) (.tmp 29) (OLD := #[.int .i64 0, .int .i64 0, .int .i64 0, .slice none 0 0, .int .i64 0, .bool false, .slice none 0 0, .slice none 0 0]) (NEW := #[.int .i64 ystake, .int .i64 ycut, .int .i64 ykind, .slice yta ytable.length ytc, .int .i64 yquota, .bool yfirst, .slice fa (runners r pn).length fc, .slice r.ta r.protests.length r.tc]) ⟨_, _, _, _, _, _, _, _, _, _, _, _, _, _, rfl⟩ ⟨_, _, _, _, _, _, _, _, _, _, _, _, _, _, rfl⟩ rfl rfl rfl rfl b16 (fun W9 hb9 hF9 hG9 => ?_)
        try simp only [Act.put, List.getElem_toArray, List.getElem_cons_zero, List.getElem_cons_succ, List.setIfInBounds_toArray, List.set_cons_zero, List.set_cons_succ]
        have g9 : G w W9 := hG9 w (by omega) (g5.t hG6)
        have ho9 := own_away ho6 hF9 (own_ne ho6 b16 (by decide))
        have HF := Lib.hid (HS.out hq0 W9 fa fc g9 (own_weaken ho9 g4w))
        rw [HFU.out, HV.out] at HF
        clear hF9 hG9 g9 ho9 ho6
        go_wp2_with fail
        try simp only [Exit.inBlock, Exit.then]
        refine bodyPost_ret (res46 _ _ (w.heap.size + 1) 0 (REL := #[.int .i64 ystake, .int .i64 ycut, .int .i64 ykind, .slice yta ytable.length ytc, .int .i64 yquota, .bool yfirst, .slice fa (runners r pn).length fc, .slice r.ta r.protests.length r.tc]) ⟨_, _, _, _, _, _, _, _, _, _, _, _, _, _, rfl⟩ rfl rfl hb9) rfl ?_
        exact HF.out
end Go.Proofs.YtnkmcoljijmgpaaGreat
