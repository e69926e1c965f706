import Derived.Test.YtnkmcoljijmgpaaGreatAt
set_option linter.unusedSimpArgs false
set_option linter.unusedVariables false
namespace Go.Proofs.YtnkmcoljijmgpaaGreat
open Go.RowKit Go.Shelf Go.Sort
attribute [local go_sem] Oper.semAt_some
theorem uniq_of {r : Ra} (h : racersB r = true) : r.racers.length ≤ 12 ∧ Uniq r.racers := by
  unfold racersB at h
  simp only [Bool.and_eq_true, decide_eq_true_eq] at h
  refine ⟨h.1, ?_⟩
  unfold Uniq
  rw [List.pairwise_iff_getElem]
  intro i j hi hj hij
  have h2 := allU_iff.1 h.2 j hj
  simp only [Bool.and_eq_true, Bool.not_eq_true'] at h2
  intro e
  have h3 : hasB (r.racers.take j) (r.racers.getD j default).bird = true := by
    unfold hasB
    refine anyU_yes (i := i) (by rw [List.length_take]; omega) ?_
    simp [List.getD_eq_getElem?_getD, List.getElem?_take_of_lt hij, hi, hj, e]
  rw [h3] at h2
  cases h2.1
theorem race_parts {r : Ra} (h : raceB r = true) : racersB r = true := by
  unfold raceB at h
  simp only [Bool.and_eq_true] at h
  exact h.2.2.1
/-- the error of a question about a pool and some birds -/
def qE (r : Ra) (p : Int) (bs : List Int) : Int := if raceB r = true then (if isInB p 0 ((r.pools.length : Int) - 1) = true then (if allU (fun i => hasB (runners r p) (bs.getD i 0)) bs.length = true then 0 else 1) else 1) else 80
def fuOf (r : Ra) (p : Int) (fa : Option Addr) (fc : Nat) : Fu := ⟨poolAt r p, fa, fc, runners r p, r.ta, r.tc, r.protests⟩
def fu0 : Array Value := #[.int .i64 0, .int .i64 0, .int .i64 0, .slice none 0 0, .int .i64 0, .bool false, .slice none 0 0, .slice none 0 0]
def QPost (r : Ra) (p : Int) (bs : List Int) (w : World) (e : Ending) (w' : World) : Prop := G w w' ∧ ((qE r p bs ≠ 0 ∧ e = .returned (.tuple #[.agg fu0, .int .i64 (qE r p bs)])) ∨ (qE r p bs = 0 ∧ ∃ fa fc, e = .returned (.tuple #[.agg (fuOf r p fa fc).v, .int .i64 0]) ∧ w'.ownsRow w.heap.size 60 5 (.slice fa (runners r p).length fc) (runners r p).length (rcV (runners r p))))
theorem has72 (l : List Rc) (a : Option Addr) (cap : Nat) (b : Int) (K : Nat) (fv : Array Value) (W : World) (hB : Blk W K 85 fv) (h6 : fv[6]? = some (.slice a l.length cap)) (h : RowE Rc.v 5 W a l) (hl : l.length ≤ 1000) : Calls Tryz.prog 72 #[.int .i64 b, .pointer (some ⟨K, 0, none⟩)] W fun e w' => e = .returned (.bool (hasB l b)) ∧ G W w' := by
  have HH := Lib.hid (has_any l a cap b W h hl)
  have m6 := (hB.cell 6).trans h6
  have lB := hB.lt
  clear h hB h6
  go_enter Tryz.func72, Tryz.ntmps72
  go_wp2_with (go_at_call 73; refine (HH.out).mono ?_; rintro e w1 ⟨rfl, hG1⟩)
  first | (go_ret; exact ⟨rfl, hG1⟩) | exact ⟨rfl, hG1⟩
set_option maxRecDepth 100000 in
set_option maxHeartbeats 4000000 in
theorem res46 (tmps : Array Value) (w : World) (g : Nat) (n : Int) {REL : Array Value} (hR : IsFu REL) (h : tmps.getD 6 undef = .pointer (some ⟨g, 0, none⟩)) (h7 : tmps.getD 7 undef = .int .i64 n) (hB : Blk w g 85 REL) :
    (results Tryz.f46 tmps).run Tryz.prog w = .ok (.tuple #[.agg REL, .int .i64 n]) w := by
  obtain ⟨x0, x1, x2, x3, xl, xc, x4, x5, x6, xm, xd, x7, xn, xe, rfl⟩ := hR
  have c0 := hB.cell 0
  have c1 := hB.cell 1
  have c2 := hB.cell 2
  have c3 := hB.cell 3
  have c4 := hB.cell 4
  have c5 := hB.cell 5
  have c6 := hB.cell 6
  have c7 := hB.cell 7
  clear hB
  have hr : Tryz.f46.results = #[.cell 6 85, .tmp 7] := rfl
  have h' : tmps[6]?.getD undef = .pointer (some ⟨g, 0, none⟩) := by simpa using h
  have h7' : tmps[7]?.getD undef = .int .i64 n := by simpa using h7
  simp only [results, hr]
  go_simp
end Go.Proofs.YtnkmcoljijmgpaaGreat
set_option linter.unusedSimpArgs false
set_option linter.unusedVariables false
namespace Go.Proofs.YtnkmcoljijmgpaaGreat
open Go.RowKit Go.Shelf Go.Sort
attribute [local go_sem] Oper.semAt_some
set_option maxRecDepth 100000 in
set_option maxHeartbeats 8000000 in
theorem question_any (r : Ra) (p : Int) (bs : List Int) (ba : Option Addr) (bc : Nat) (w : World) (h : r.At w) (hb : IntsAt w ba bs) (hl : bs.length ≤ 1000) : Calls Tryz.prog 46 #[.agg r.v, .int .i64 p, .slice ba bs.length bc] w (QPost r p bs w) := by
  have HC := Lib.hid (fun (W : World) (hW : G w W) => Check_any r W (h.keep hW))
  have HI := Lib.hid (fun (W : World) (hW : G w W) => isPool_any r p W h.np)
  have HO := Lib.hid (fun (W : World) (hW : G w W) (q : Nat) (hq : q < r.pools.length) (hr : raceB r = true) => open_any r q W (h.keep hW) hq (uniq_of (race_parts hr)).2 (uniq_of (race_parts hr)).1)
  have HE := Lib.hid (fun (W : World) (hW : G w W) (K : Nat) (fv : Array Value) (fa : Option Addr) (fc : Nat) (hK : Blk W K 85 fv) (h6 : fv[6]? = some (.slice fa (runners r p).length fc)) (hrow : RowE Rc.v 5 W fa (runners r p)) (hlr : (runners r p).length ≤ 1000) => eachInt_any 72 (enters_of Tryz.func72 (by kernel_rfl) rfl) #[.pointer (some ⟨K, 0, none⟩)] W ba bc bs (fun i => hasB (runners r p) (bs.getD i 0)) hl (hb.below hW) (fun W' hW' i hi => has72 (runners r p) fa fc _ K fv W' (hK.keep hW') h6 (hrow.below hW') hlr))
  have hz : ∀ (n : Int), qE r p bs = n → n ≠ 0 → ∀ W', G w W' → QPost r p bs w (.returned (.tuple #[.agg fu0, .int .i64 n])) W' := fun n e hn W' hG => ⟨hG, .inl ⟨by rw [e]; exact hn, by rw [e]⟩⟩
  have HZ := Lib.hid hz
  clear hz
  have HS : Hid (qE r p bs = 0 → ∀ W' fa fc, G w W' → W'.ownsRow w.heap.size 60 5 (.slice fa (runners r p).length fc) (runners r p).length (rcV (runners r p)) → QPost r p bs w (.returned (.tuple #[.agg (fuOf r p fa fc).v, .int .i64 0])) W') := fun e W' fa fc hG ho => ⟨hG, .inr ⟨e, fa, fc, rfl, ho⟩⟩
  have hlen : raceB r = true → (runners r p).length ≤ 12 := fun hr => by
    unfold runners
    rw [srt_len]
    exact Nat.le_trans (List.length_filter_le _ _) (uniq_of (race_parts hr)).1
  have HLN := Lib.hid hlen
  have hqe : qE r p bs = if raceB r = true then (if isInB p 0 ((r.pools.length : Int) - 1) = true then (if allU (fun i => hasB (runners r p) (bs.getD i 0)) bs.length = true then 0 else 1) else 1) else 80 := rfl
  have HFU : Hid (∀ fa fc, (fuOf r p fa fc) = ⟨poolAt r p, fa, fc, runners r p, r.ta, r.tc, r.protests⟩) := fun _ _ => rfl
  clear hlen h hb
  unfold chk8 at HC
  generalize qE r p bs = QE at *
  generalize QPost r p bs w = PP at *
  generalize allU (fun i => hasB (runners r p) (bs.getD i 0)) bs.length = AL at *
  obtain ⟨W1, hW1⟩ : ∃ W1, W1 = (w.alloc (.cells r.v 26)).alloc (.cells #[.int .i64 0, .int .i64 0, .int .i64 0, .slice none 0 0, .int .i64 0, .bool false, .slice none 0 0, .slice none 0 0] 85) := ⟨_, rfl⟩
  have g0 : G w W1 := by rw [hW1]; exact ((G.rf _).a _).a _
  have b0 : Blk W1 w.heap.size 26 r.v := by rw [hW1]; exact (Blk.new _ _ _).alloc _
  have b1 : Blk W1 (w.heap.size + 1) 85 #[.int .i64 0, .int .i64 0, .int .i64 0, .slice none 0 0, .int .i64 0, .bool false, .slice none 0 0, .slice none 0 0] := by rw [hW1]; exact Blk.new1 _ _ _ _
  have m0 : W1.cell? ⟨w.heap.size, 0, none⟩ = some (.slice r.ra r.racers.length r.rc) := b0.cell 0
  have m1 : W1.cell? ⟨w.heap.size, 1, none⟩ = some (.slice r.pa r.pools.length r.pc) := b0.cell 1
  have m2 : W1.cell? ⟨w.heap.size, 2, none⟩ = some (.slice r.ta r.protests.length r.tc) := b0.cell 2
  have l0 := b0.lt
  have hrv : r.v = #[.slice r.ra r.racers.length r.rc, .slice r.pa r.pools.length r.pc, .slice r.ta r.protests.length r.tc] := rfl
  rw [hrv] at HC HI HO b0 hW1 ⊢
  clear hrv
  cases hB : raceB r
  · rw [hB] at HC hqe
    have hq80 : QE = 80 := by simpa using hqe
    have HC2 := Lib.hid (HC.out W1 g0)
    simp only [Bool.false_eq_true, if_false] at HC2
    clear hqe hB HC
    go_enter Tryz.func46, Tryz.ntmps46
    go_upto_region 1 with fail
    change Code.wp _ _ _ _ ((w.alloc (.cells _ 26)).alloc (.cells #[.int .i64 0, .int .i64 0, .int .i64 0, .slice none 0 0, .int .i64 0, .bool false, .slice none 0 0, .slice none 0 0] 85))
    rw [← hW1]
    clear hW1
    go_upto_region 3 with (go_at_call 34; refine (HC2.out).mono ?_; rintro e w2 ⟨rfl, hG2⟩)
    have b12 := b1.keep hG2
    clear m0 m1 m2 l0
    refine wp_region_lit ?_
    refine wpList_plain rfl fun K hK => ?_
    go_simp
    refine hK _ _ ?_
    clear hK
    try simp only [Act.put, List.getElem_toArray, List.getElem_cons_zero, List.getElem_cons_succ, List.setIfInBounds_toArray, List.set_cons_zero, List.set_cons_succ]
    refine wpList_plain rfl fun K hK => ?_
    go_simp
    refine hK _ _ ?_
    clear hK
    try simp only [Act.put, List.getElem_toArray, List.getElem_cons_zero, List.getElem_cons_succ, List.setIfInBounds_toArray, List.set_cons_zero, List.set_cons_succ]
    refine wpList_store85 (w.heap.size + 1) (.tmp 6) (.tmp 14) (OLD := #[.int .i64 0, .int .i64 0, .int .i64 0, .slice none 0 0, .int .i64 0, .bool false, .slice none 0 0, .slice none 0 0]) (NEW := #[.int .i64 0, .int .i64 0, .int .i64 0, .slice none 0 0, .int .i64 0, .bool false, .slice none 0 0, .slice none 0 0]) ⟨_, _, _, _, _, _, _, _, _, _, _, _, _, _, rfl⟩ ⟨_, _, _, _, _, _, _, _, _, _, _, _, _, _, rfl⟩ rfl rfl rfl rfl b12 (fun W9 hb9 hF9 hG9 => ?_)
    try simp only [Act.put, List.getElem_toArray, List.getElem_cons_zero, List.getElem_cons_succ, List.setIfInBounds_toArray, List.set_cons_zero, List.set_cons_succ]
    have g9 : G w W9 := hG9 w (by omega) (g0.t hG2)
    have HF := Lib.hid (HZ.out 80 hq80 (by decide) W9 g9)
    clear hF9 hG9 g9
    go_wp2_with fail
    try simp only [Exit.inBlock, Exit.then]
    refine bodyPost_ret (res46 _ _ (w.heap.size + 1) 80 (REL := #[.int .i64 0, .int .i64 0, .int .i64 0, .slice none 0 0, .int .i64 0, .bool false, .slice none 0 0, .slice none 0 0]) ⟨_, _, _, _, _, _, _, _, _, _, _, _, _, _, rfl⟩ rfl rfl hb9) rfl ?_
    exact HF.out
  · rw [hB] at HC hqe
    have HC2 := Lib.hid (HC.out W1 g0)
    simp only [if_true] at HC2 hqe
    cases hI : isInB p 0 ((r.pools.length : Int) - 1)
    · rw [hI] at HI hqe
      have hq1 : QE = 1 := by simpa using hqe
      clear hqe hB hI HC HO HE HS HLN
      go_enter Tryz.func46, Tryz.ntmps46
      go_upto_region 1 with fail
      change Code.wp _ _ _ _ ((w.alloc (.cells _ 26)).alloc (.cells #[.int .i64 0, .int .i64 0, .int .i64 0, .slice none 0 0, .int .i64 0, .bool false, .slice none 0 0, .slice none 0 0] 85))
      rw [← hW1]
      clear hW1
      go_upto_region 5 with (first | (go_at_call 34; refine (HC2.out).mono ?_; rintro e w2 ⟨rfl, hG2⟩; clear m0 m1 m2 l0; have b02 := b0.keep hG2; have b12 := b1.keep hG2; have g2 := g0.t hG2; have m0 := b02.cell 0; have m1 := b02.cell 1; have m2 := b02.cell 2; have l0 := b02.lt) | (go_at_call 70; refine (HI.out _ g2).mono ?_; rintro e w3 ⟨rfl, hG3⟩))
      have b13 := b12.keep hG3
      clear m0 m1 m2 l0
      refine wp_region_lit ?_
      refine wpList_plain rfl fun K hK => ?_
      go_simp
      refine hK _ _ ?_
      clear hK
      try simp only [Act.put, List.getElem_toArray, List.getElem_cons_zero, List.getElem_cons_succ, List.setIfInBounds_toArray, List.set_cons_zero, List.set_cons_succ]
      refine wpList_store85 (w.heap.size + 1) (.tmp 6) (.tmp 20) (OLD := #[.int .i64 0, .int .i64 0, .int .i64 0, .slice none 0 0, .int .i64 0, .bool false, .slice none 0 0, .slice none 0 0]) (NEW := #[.int .i64 0, .int .i64 0, .int .i64 0, .slice none 0 0, .int .i64 0, .bool false, .slice none 0 0, .slice none 0 0]) ⟨_, _, _, _, _, _, _, _, _, _, _, _, _, _, rfl⟩ ⟨_, _, _, _, _, _, _, _, _, _, _, _, _, _, rfl⟩ rfl rfl rfl rfl b13 (fun W9 hb9 hF9 hG9 => ?_)
      try simp only [Act.put, List.getElem_toArray, List.getElem_cons_zero, List.getElem_cons_succ, List.setIfInBounds_toArray, List.set_cons_zero, List.set_cons_succ]
      have g9 : G w W9 := hG9 w (by omega) (g2.t hG3)
      have HF := Lib.hid (HZ.out 1 hq1 (by decide) W9 g9)
      clear hF9 hG9 g9
      go_wp2_with fail
      try simp only [Exit.inBlock, Exit.then]
      refine bodyPost_ret (res46 _ _ (w.heap.size + 1) 1 (REL := #[.int .i64 0, .int .i64 0, .int .i64 0, .slice none 0 0, .int .i64 0, .bool false, .slice none 0 0, .slice none 0 0]) ⟨_, _, _, _, _, _, _, _, _, _, _, _, _, _, rfl⟩ rfl rfl hb9) rfl ?_
      exact HF.out
    · have hp : 0 ≤ p ∧ p ≤ (r.pools.length : Int) - 1 := by
        unfold isInB at hI
        simpa using hI
      rw [hI] at HI hqe
      obtain ⟨pn, rfl⟩ : ∃ pn : Nat, p = (pn : Int) := ⟨p.toNat, by omega⟩
      simp only [if_true] at hqe
      obtain ⟨y, hy⟩ : ∃ y, y = poolAt r (pn : Int) := ⟨_, rfl⟩
      obtain ⟨ystake, ycut, ykind, yta, ytc, ytable, yquota, yfirst⟩ := y
      have hv : ∀ fa fc, Fu.v ⟨poolAt r (pn : Int), fa, fc, runners r pn, r.ta, r.tc, r.protests⟩ = #[.int .i64 ystake, .int .i64 ycut, .int .i64 ykind, .slice yta ytable.length ytc, .int .i64 yquota, .bool yfirst, .slice fa (runners r pn).length fc, .slice r.ta r.protests.length r.tc] := fun fa fc => by rw [← hy]; rfl
      have HO2 : Hid (∀ (W : World) (hW : G w W), Calls Tryz.prog 53 #[.agg #[.slice r.ra r.racers.length r.rc, .slice r.pa r.pools.length r.pc, .slice r.ta r.protests.length r.tc], .int .i64 (pn : Nat)] W fun e w' => ∃ fa fc, e = .returned (.agg #[.int .i64 ystake, .int .i64 ycut, .int .i64 ykind, .slice yta ytable.length ytc, .int .i64 yquota, .bool yfirst, .slice fa (runners r pn).length fc, .slice r.ta r.protests.length r.tc]) ∧ w'.ownsRow W.heap.size 60 5 (.slice fa (runners r pn).length fc) (runners r pn).length (rcV (runners r pn)) ∧ G W w') := fun W hW => by
        refine (HO.out W hW pn (by omega) hB).mono ?_
        rintro e w' ⟨fa, fc, rfl, a, b⟩
        exact ⟨fa, fc, by rw [hv], a, b⟩
      have HV := Lib.hid hv
      clear hv hy
      have hrl := HLN.out hB
      clear hB hI HC HO HLN hp
      cases AL
      · have hq1 : QE = 1 := by simpa using hqe
        clear hqe HS
        go_enter Tryz.func46, Tryz.ntmps46
        go_upto_region 1 with fail
        change Code.wp _ _ _ _ ((w.alloc (.cells _ 26)).alloc (.cells #[.int .i64 0, .int .i64 0, .int .i64 0, .slice none 0 0, .int .i64 0, .bool false, .slice none 0 0, .slice none 0 0] 85))
        rw [← hW1]
        clear hW1
        go_upto_region 7 with (first | (go_at_call 34; refine (HC2.out).mono ?_; rintro e w2 ⟨rfl, hG2⟩; clear m0 m1 m2 l0; have b02 := b0.keep hG2; have b12 := b1.keep hG2; have g2 := g0.t hG2; have m0 := b02.cell 0; have m1 := b02.cell 1; have m2 := b02.cell 2; have l0 := b02.lt) | (go_at_call 70; refine (HI.out _ g2).mono ?_; rintro e w3 ⟨rfl, hG3⟩; clear m0 m1 m2 l0; have b03 := b02.keep hG3; have b13 := b12.keep hG3; have g3 := g2.t hG3; have m0 := b03.cell 0; have m1 := b03.cell 1; have m2 := b03.cell 2; have l0 := b03.lt) | (go_at_call 53; refine (HO2.out _ g3).mono ?_; rintro e w4 ⟨fa, fc, rfl, ho4, hG4⟩))
        have b14 := b13.keep hG4
        have g4 := g3.t hG4
        have g4w := g3.size
        clear m0 m1 m2 l0
        have bk : Blk (w4.alloc (.cells #[.int .i64 ystake, .int .i64 ycut, .int .i64 ykind, .slice yta ytable.length ytc, .int .i64 yquota, .bool yfirst, .slice fa (runners r pn).length fc, .slice r.ta r.protests.length r.tc] 85)) w4.heap.size 85 #[.int .i64 ystake, .int .i64 ycut, .int .i64 ykind, .slice yta ytable.length ytc, .int .i64 yquota, .bool yfirst, .slice fa (runners r pn).length fc, .slice r.ta r.protests.length r.tc] := Blk.new _ _ _
        have g5 : G w (w4.alloc (.cells #[.int .i64 ystake, .int .i64 ycut, .int .i64 ykind, .slice yta ytable.length ytc, .int .i64 yquota, .bool yfirst, .slice fa (runners r pn).length fc, .slice r.ta r.protests.length r.tc] 85)) := g4.a _
        have b15 := b14.alloc (.cells #[.int .i64 ystake, .int .i64 ycut, .int .i64 ykind, .slice yta ytable.length ytc, .int .i64 yquota, .bool yfirst, .slice fa (runners r pn).length fc, .slice r.ta r.protests.length r.tc] 85)
        have ho5 := own_G ho4 ((G.rf w4).a (.cells #[.int .i64 ystake, .int .i64 ycut, .int .i64 ykind, .slice yta ytable.length ytc, .int .i64 yquota, .bool yfirst, .slice fa (runners r pn).length fc, .slice r.ta r.protests.length r.tc] 85))
        obtain ⟨a0, c0, hve, hrow⟩ := own_row ho5
        obtain ⟨rfl, rfl⟩ : fa = a0 ∧ fc = c0 := by simpa using hve
        have HEK := Lib.hid (HE.out _ g5 w4.heap.size _ fa fc bk rfl hrow (by omega))
        change Code.wp _ _ _ _ (w4.alloc (.cells #[.int .i64 ystake, .int .i64 ycut, .int .i64 ykind, .slice yta ytable.length ytc, .int .i64 yquota, .bool yfirst, .slice fa (runners r pn).length fc, .slice r.ta r.protests.length r.tc] 85))
        clear hve hrow ho4 b14 b13 b12 b1 HE
        generalize hw5 : w4.alloc (.cells #[.int .i64 ystake, .int .i64 ycut, .int .i64 ykind, .slice yta ytable.length ytc, .int .i64 yquota, .bool yfirst, .slice fa (runners r pn).length fc, .slice r.ta r.protests.length r.tc] 85) = w5 at *
        clear hw5
        go_upto_region 8 with (go_at_call 71; refine (HEK.out).mono ?_; rintro e w6 ⟨rfl, hG6⟩)
        have b16 := b15.keep hG6
        refine wp_region_lit ?_
        refine wpList_plain rfl fun K hK => ?_
        go_simp
        refine hK _ _ ?_
        clear hK
        try simp only [Act.put, List.getElem_toArray, List.getElem_cons_zero, List.getElem_cons_succ, List.setIfInBounds_toArray, List.set_cons_zero, List.set_cons_succ]
        refine wpList_store85 (w.heap.size + 1) (.tmp 6) (.tmp 28) (OLD := #[.int .i64 0, .int .i64 0, .int .i64 0, .slice none 0 0, .int .i64 0, .bool false, .slice none 0 0, .slice none 0 0]) (NEW := #[.int .i64 0, .int .i64 0, .int .i64 0, .slice none 0 0, .int .i64 0, .bool false, .slice none 0 0, .slice none 0 0]) ⟨_, _, _, _, _, _, _, _, _, _, _, _, _, _, rfl⟩ ⟨_, _, _, _, _, _, _, _, _, _, _, _, _, _, rfl⟩ rfl rfl rfl rfl b16 (fun W9 hb9 hF9 hG9 => ?_)
        try simp only [Act.put, List.getElem_toArray, List.getElem_cons_zero, List.getElem_cons_succ, List.setIfInBounds_toArray, List.set_cons_zero, List.set_cons_succ]
        have g9 : G w W9 := hG9 w (by omega) (g5.t hG6)
        have HF := Lib.hid (HZ.out 1 hq1 (by decide) W9 g9)
        clear hF9 hG9 g9
        go_wp2_with fail
        try simp only [Exit.inBlock, Exit.then]
        refine bodyPost_ret (res46 _ _ (w.heap.size + 1) 1 (REL := #[.int .i64 0, .int .i64 0, .int .i64 0, .slice none 0 0, .int .i64 0, .bool false, .slice none 0 0, .slice none 0 0]) ⟨_, _, _, _, _, _, _, _, _, _, _, _, _, _, rfl⟩ rfl rfl hb9) rfl ?_
        exact HF.out
      · have hq0 : QE = 0 := by simpa using hqe
        clear hqe HZ
        go_enter Tryz.func46, Tryz.ntmps46
        go_upto_region 1 with fail
        change Code.wp _ _ _ _ ((w.alloc (.cells _ 26)).alloc (.cells #[.int .i64 0, .int .i64 0, .int .i64 0, .slice none 0 0, .int .i64 0, .bool false, .slice none 0 0, .slice none 0 0] 85))
        rw [← hW1]
        clear hW1
        go_upto_region 7 with (first | (go_at_call 34; refine (HC2.out).mono ?_; rintro e w2 ⟨rfl, hG2⟩; clear m0 m1 m2 l0; have b02 := b0.keep hG2; have b12 := b1.keep hG2; have g2 := g0.t hG2; have m0 := b02.cell 0; have m1 := b02.cell 1; have m2 := b02.cell 2; have l0 := b02.lt) | (go_at_call 70; refine (HI.out _ g2).mono ?_; rintro e w3 ⟨rfl, hG3⟩; clear m0 m1 m2 l0; have b03 := b02.keep hG3; have b13 := b12.keep hG3; have g3 := g2.t hG3; have m0 := b03.cell 0; have m1 := b03.cell 1; have m2 := b03.cell 2; have l0 := b03.lt) | (go_at_call 53; refine (HO2.out _ g3).mono ?_; rintro e w4 ⟨fa, fc, rfl, ho4, hG4⟩))
        have b14 := b13.keep hG4
        have g4 := g3.t hG4
        have g4w := g3.size
        clear m0 m1 m2 l0
        have bk : Blk (w4.alloc (.cells #[.int .i64 ystake, .int .i64 ycut, .int .i64 ykind, .slice yta ytable.length ytc, .int .i64 yquota, .bool yfirst, .slice fa (runners r pn).length fc, .slice r.ta r.protests.length r.tc] 85)) w4.heap.size 85 #[.int .i64 ystake, .int .i64 ycut, .int .i64 ykind, .slice yta ytable.length ytc, .int .i64 yquota, .bool yfirst, .slice fa (runners r pn).length fc, .slice r.ta r.protests.length r.tc] := Blk.new _ _ _
        have g5 : G w (w4.alloc (.cells #[.int .i64 ystake, .int .i64 ycut, .int .i64 ykind, .slice yta ytable.length ytc, .int .i64 yquota, .bool yfirst, .slice fa (runners r pn).length fc, .slice r.ta r.protests.length r.tc] 85)) := g4.a _
        have b15 := b14.alloc (.cells #[.int .i64 ystake, .int .i64 ycut, .int .i64 ykind, .slice yta ytable.length ytc, .int .i64 yquota, .bool yfirst, .slice fa (runners r pn).length fc, .slice r.ta r.protests.length r.tc] 85)
        have ho5 := own_G ho4 ((G.rf w4).a (.cells #[.int .i64 ystake, .int .i64 ycut, .int .i64 ykind, .slice yta ytable.length ytc, .int .i64 yquota, .bool yfirst, .slice fa (runners r pn).length fc, .slice r.ta r.protests.length r.tc] 85))
        obtain ⟨a0, c0, hve, hrow⟩ := own_row ho5
        obtain ⟨rfl, rfl⟩ : fa = a0 ∧ fc = c0 := by simpa using hve
        have HEK := Lib.hid (HE.out _ g5 w4.heap.size _ fa fc bk rfl hrow (by omega))
        change Code.wp _ _ _ _ (w4.alloc (.cells #[.int .i64 ystake, .int .i64 ycut, .int .i64 ykind, .slice yta ytable.length ytc, .int .i64 yquota, .bool yfirst, .slice fa (runners r pn).length fc, .slice r.ta r.protests.length r.tc] 85))
        clear hve hrow ho4 b14 b13 b12 b1 HE
        generalize hw5 : w4.alloc (.cells #[.int .i64 ystake, .int .i64 ycut, .int .i64 ykind, .slice yta ytable.length ytc, .int .i64 yquota, .bool yfirst, .slice fa (runners r pn).length fc, .slice r.ta r.protests.length r.tc] 85) = w5 at *
        clear hw5
        go_upto_region 9 with (go_at_call 71; refine (HEK.out).mono ?_; rintro e w6 ⟨rfl, hG6⟩)
        have b16 := b15.keep hG6
        have bk6 := bk.keep hG6
        have ho6 := own_G ho5 hG6
        refine wp_region_lit ?_
        refine wpList_load85 w4.heap.size (.tmp 9) (REL := #[.int .i64 ystake, .int .i64 ycut, .int .i64 ykind, .slice yta ytable.length ytc, .int .i64 yquota, .bool yfirst, .slice fa (runners r pn).length fc, .slice r.ta r.protests.length r.tc]) ⟨_, _, _, _, _, _, _, _, _, _, _, _, _, _, rfl⟩ rfl rfl rfl bk6 ?_
        try simp only [Act.put, List.getElem_toArray, List.getElem_cons_zero, List.getElem_cons_succ, List.setIfInBounds_toArray, List.set_cons_zero, List.set_cons_succ]
        refine wpList_store85 (w.heap.size + 1) (.tmp 6) (.tmp 29) (OLD := #[.int .i64 0, .int .i64 0, .int .i64 0, .slice none 0 0, .int .i64 0, .bool false, .slice none 0 0, .slice none 0 0]) (NEW := #[.int .i64 ystake, .int .i64 ycut, .int .i64 ykind, .slice yta ytable.length ytc, .int .i64 yquota, .bool yfirst, .slice fa (runners r pn).length fc, .slice r.ta r.protests.length r.tc]) ⟨_, _, _, _, _, _, _, _, _, _, _, _, _, _, rfl⟩ ⟨_, _, _, _, _, _, _, _, _, _, _, _, _, _, rfl⟩ rfl rfl rfl rfl b16 (fun W9 hb9 hF9 hG9 => ?_)
        try simp only [Act.put, List.getElem_toArray, List.getElem_cons_zero, List.getElem_cons_succ, List.setIfInBounds_toArray, List.set_cons_zero, List.set_cons_succ]
        have g9 : G w W9 := hG9 w (by omega) (g5.t hG6)
        have ho9 := own_away ho6 hF9 (own_ne ho6 b16 (by decide))
        have HF := Lib.hid (HS.out hq0 W9 fa fc g9 (own_weaken ho9 g4w))
        rw [HFU.out, HV.out] at HF
        clear hF9 hG9 g9 ho9 ho6
        go_wp2_with fail
        try simp only [Exit.inBlock, Exit.then]
        refine bodyPost_ret (res46 _ _ (w.heap.size + 1) 0 (REL := #[.int .i64 ystake, .int .i64 ycut, .int .i64 ykind, .slice yta ytable.length ytc, .int .i64 yquota, .bool yfirst, .slice fa (runners r pn).length fc, .slice r.ta r.protests.length r.tc]) ⟨_, _, _, _, _, _, _, _, _, _, _, _, _, _, rfl⟩ rfl rfl hb9) rfl ?_
        exact HF.out
end Go.Proofs.YtnkmcoljijmgpaaGreat
set_option linter.unusedSimpArgs false
set_option linter.unusedVariables false
namespace Go.Proofs.YtnkmcoljijmgpaaGreat
open Go.RowKit Go.Shelf Go.Sort
attribute [local go_sem] Oper.semAt_some
theorem runners_sorted (r : Ra) (p : Int) : (runners r p).Pairwise fun x y => x.bird ≤ y.bird := srt_pw _
theorem runners_uniq {r : Ra} (h : raceB r = true) (p : Int) : Uniq (runners r p) := by
  have hu := uniq_filter (uniq_of (race_parts h)).2 (fun x => inL x.pools p)
  unfold Uniq at hu ⊢
  unfold runners
  exact ((srt_perm _).pairwise_iff (fun h e => h e.symm)).2 hu
theorem runners_le {r : Ra} (h : raceB r = true) (p : Int) : (runners r p).length ≤ 12 := by
  unfold runners
  rw [srt_len]
  exact Nat.le_trans (List.length_filter_le _ _) (uniq_of (race_parts h)).1
theorem pool_of {r : Ra} (h : raceB r = true) {p : Int} (hp : isInB p 0 ((r.pools.length : Int) - 1) = true) : p.toNat < r.pools.length ∧ poolB (poolAt r p) = true := by
  unfold isInB at hp
  simp only [Bool.and_eq_true, decide_eq_true_eq] at hp
  have hlt : p.toNat < r.pools.length := by omega
  unfold raceB at h
  simp only [Bool.and_eq_true] at h
  exact ⟨hlt, allU_iff.1 h.2.1 p.toNat hlt⟩
theorem fu_bounds {r : Ra} (h : raceB r = true) {p : Int} (hp : isInB p 0 ((r.pools.length : Int) - 1) = true) (fa : Option Addr) (fc : Nat) : FuB (fuOf r p fa fc) := by
  obtain ⟨_, hb⟩ := pool_of h hp
  unfold poolB isInB at hb
  simp only [Bool.and_eq_true, decide_eq_true_eq] at hb
  exact ⟨⟨hb.1.1, hb.1.2⟩, ⟨hb.2.1.1, hb.2.1.2⟩, runners_le h p⟩
theorem qE_parts {r : Ra} {p : Int} {bs : List Int} (h : qE r p bs = 0) : raceB r = true ∧ isInB p 0 ((r.pools.length : Int) - 1) = true := by
  unfold qE at h
  by_cases h1 : raceB r = true
  · rw [if_pos h1] at h
    by_cases h2 : isInB p 0 ((r.pools.length : Int) - 1) = true
    · exact ⟨h1, h2⟩
    · rw [if_neg h2] at h; cases h
  · rw [if_neg h1] at h; cases h
def PlPost (r : Ra) (p : Int) (w : World) (e : Ending) (w' : World) : Prop := G w w' ∧ ((qE r p [] ≠ 0 ∧ e = .returned (.tuple #[.slice none 0 0, .int .i64 (qE r p [])])) ∨ (qE r p [] = 0 ∧ ∃ v, e = .returned (.tuple #[v, .int .i64 0]) ∧ w'.ownsRow w.heap.size 3 1 v (placesL (fuOf r p none 0)).length (iv (placesL (fuOf r p none 0)))))
def OrPost8 (r : Ra) (p : Int) (w : World) (e : Ending) (w' : World) : Prop := G w w' ∧ ((qE r p [] ≠ 0 ∧ e = .returned (.tuple #[.slice none 0 0, .int .i64 (qE r p [])])) ∨ (qE r p [] = 0 ∧ ∃ v cs Bl, e = .returned (.tuple #[v, .int .i64 0]) ∧ OrdAt w' w.heap.size v (orderL (fuOf r p none 0) []) cs Bl))
set_option maxRecDepth 100000 in
set_option maxHeartbeats 4000000 in
theorem Places_any (r : Ra) (p : Int) (w : World) (h : r.At w) : Calls Tryz.prog 22 #[.agg r.v, .int .i64 p] w (PlPost r p w) := by
  have HQ := Lib.hid (fun (W : World) (hW : G w W) => question_any r p [] none 0 W (h.keep hW) (.inl rfl) (by simp))
  have HE : Hid (qE r p [] ≠ 0 → ∀ W', G w W' → PlPost r p w (.returned (.tuple #[.slice none 0 0, .int .i64 (qE r p [])])) W') := fun a W' b => ⟨b, .inl ⟨a, rfl⟩⟩
  have HS : Hid (qE r p [] = 0 → ∀ W' v, G w W' → W'.ownsRow w.heap.size 3 1 v (placesL (fuOf r p none 0)).length (iv (placesL (fuOf r p none 0))) → PlPost r p w (.returned (.tuple #[v, .int .i64 0])) W') := fun a W' v b c => ⟨b, .inr ⟨a, v, rfl, c⟩⟩
  have HC := Lib.hid (fun (hq : qE r p [] = 0) (W : World) (hW : G w W) (fa : Option Addr) (fc : Nat) => places_any (fuOf r p fa fc) W (fu_bounds (qE_parts hq).1 (qE_parts hq).2 fa fc) (pool_of (qE_parts hq).1 (qE_parts hq).2).2 ((h.keep hW).ps.tables _ (pool_of (qE_parts hq).1 (qE_parts hq).2).1))
  have HPL : Hid (∀ fa fc, placesL (fuOf r p fa fc) = placesL (fuOf r p none 0)) := fun _ _ => rfl
  unfold QPost at HQ
  have hv : ∀ fa fc, (fuOf r p fa fc).v = #[.int .i64 (poolAt r p).stake, .int .i64 (poolAt r p).cut, .int .i64 (poolAt r p).kind, .slice (poolAt r p).ta (poolAt r p).table.length (poolAt r p).tc, .int .i64 (poolAt r p).quota, .bool (poolAt r p).first, .slice fa (runners r p).length fc, .slice r.ta r.protests.length r.tc] := fun _ _ => rfl
  generalize PlPost r p w = PP at *
  clear h
  have g0 : G w (w.alloc (.cells r.v 26)) := (G.rf _).a _
  have b0 : Blk (w.alloc (.cells r.v 26)) w.heap.size 26 r.v := Blk.new _ _ _
  have m0 : (w.alloc (.cells r.v 26)).cell? ⟨w.heap.size, 0, none⟩ = some (.slice r.ra r.racers.length r.rc) := b0.cell 0
  have m1 : (w.alloc (.cells r.v 26)).cell? ⟨w.heap.size, 1, none⟩ = some (.slice r.pa r.pools.length r.pc) := b0.cell 1
  have m2 : (w.alloc (.cells r.v 26)).cell? ⟨w.heap.size, 2, none⟩ = some (.slice r.ta r.protests.length r.tc) := b0.cell 2
  have l0 := b0.lt
  have hrv : r.v = #[.slice r.ra r.racers.length r.rc, .slice r.pa r.pools.length r.pc, .slice r.ta r.protests.length r.tc] := rfl
  rw [hrv] at HQ g0 m0 m1 m2 l0 ⊢
  clear hrv b0
  generalize hQE : qE r p [] = QE at *
  go_enter Tryz.func22, Tryz.ntmps22
  go_upto_region 1 with fail
  change Code.wp _ _ _ _ (w.alloc (.cells #[.slice r.ra r.racers.length r.rc, .slice r.pa r.pools.length r.pc, .slice r.ta r.protests.length r.tc] 26))
  generalize w.alloc (.cells #[.slice r.ra r.racers.length r.rc, .slice r.pa r.pools.length r.pc, .slice r.ta r.protests.length r.tc] 26) = W1 at *
  by_cases hq : QE = 0
  · have HQ1 : Hid (Calls Tryz.prog 46 #[.agg #[.slice r.ra r.racers.length r.rc, .slice r.pa r.pools.length r.pc, .slice r.ta r.protests.length r.tc], .int .i64 p, .slice none 0 0] W1 fun e w' => ∃ fa fc, e = .returned (.tuple #[.agg (fuOf r p fa fc).v, .int .i64 0]) ∧ w'.ownsRow W1.heap.size 60 5 (.slice fa (runners r p).length fc) (runners r p).length (rcV (runners r p)) ∧ G W1 w') := by
      refine (HQ.out W1 g0).mono ?_
      rintro e w' ⟨hG, hh⟩
      rcases hh with ⟨a, _⟩ | ⟨_, fa, fc, a, b⟩
      · exact absurd hq a
      · exact ⟨fa, fc, a, b, hG⟩
    simp only [hv] at HQ1
    clear HQ HE
    have HC2 := Lib.hid (HC.out hq)
    clear HC
    simp only [hv] at HC2
    go_wp2_with (first | (go_at_call 46; refine (HQ1.out).mono ?_; rintro e w2 ⟨fa, fc, rfl, ho2, hG2⟩) | (go_at_call 59; refine (HC2.out _ ((g0.t hG2).a _) fa fc).mono ?_; rintro e w3 ⟨v, rfl, ho3, hG3⟩))
    have gz := ((g0.t hG2).a _).t hG3
    rw [HPL.out] at ho3
    exact HS.out hq _ _ gz (own_weaken ho3 ((g0.t hG2).a _).size)
  · have HQ0 : Hid (Calls Tryz.prog 46 #[.agg #[.slice r.ra r.racers.length r.rc, .slice r.pa r.pools.length r.pc, .slice r.ta r.protests.length r.tc], .int .i64 p, .slice none 0 0] W1 fun e w' => e = .returned (.tuple #[.agg #[.int .i64 0, .int .i64 0, .int .i64 0, .slice none 0 0, .int .i64 0, .bool false, .slice none 0 0, .slice none 0 0], .int .i64 QE]) ∧ G W1 w') := by
      refine (HQ.out W1 g0).mono ?_
      rintro e w' ⟨hG, hh⟩
      rcases hh with ⟨_, a⟩ | ⟨a, _⟩
      · exact ⟨a, hG⟩
      · exact absurd a hq
    have e0 : (QE == 0) = false := by simpa using hq
    have HE2 := Lib.hid (HE.out hq)
    clear HQ HE HC HS hv
    go_wp2_with (go_at_call 46; refine (HQ0.out).mono ?_; rintro e w2 ⟨rfl, hG2⟩)
    first | exact HE2.out _ (g0.t hG2) | exact HE2.out _ ((g0.t hG2).a _) | trace_state
set_option maxRecDepth 100000 in
set_option maxHeartbeats 4000000 in
theorem Order_any (r : Ra) (p : Int) (w : World) (h : r.At w) : Calls Tryz.prog 21 #[.agg r.v, .int .i64 p] w (OrPost8 r p w) := by
  have HQ := Lib.hid (fun (W : World) (hW : G w W) => question_any r p [] none 0 W (h.keep hW) (.inl rfl) (by simp))
  have HE : Hid (qE r p [] ≠ 0 → ∀ W', G w W' → OrPost8 r p w (.returned (.tuple #[.slice none 0 0, .int .i64 (qE r p [])])) W') := fun a W' b => ⟨b, .inl ⟨a, rfl⟩⟩
  have HS : Hid (qE r p [] = 0 → ∀ W' v cs Bl, G w W' → OrdAt W' w.heap.size v (orderL (fuOf r p none 0) []) cs Bl → OrPost8 r p w (.returned (.tuple #[v, .int .i64 0])) W') := fun a W' v cs Bl b c => ⟨b, .inr ⟨a, v, cs, Bl, rfl, c⟩⟩
  have HC := Lib.hid (fun (hq : qE r p [] = 0) (W : World) (hW : G w W) (fa : Option Addr) (fc : Nat) (hrow : RowE Rc.v 5 W fa (runners r p)) (hn : fa ≠ none ∨ runners r p = []) => order_any (fuOf r p fa fc) [] none 0 W hrow hn (.inl rfl) (by simp) (runners_le (qE_parts hq).1 p) (runners_uniq (qE_parts hq).1 p) (runners_sorted r p))
  have HPL : Hid (∀ fa fc, orderL (fuOf r p fa fc) [] = orderL (fuOf r p none 0) []) := fun _ _ => rfl
  unfold QPost at HQ
  have hv : ∀ fa fc, (fuOf r p fa fc).v = #[.int .i64 (poolAt r p).stake, .int .i64 (poolAt r p).cut, .int .i64 (poolAt r p).kind, .slice (poolAt r p).ta (poolAt r p).table.length (poolAt r p).tc, .int .i64 (poolAt r p).quota, .bool (poolAt r p).first, .slice fa (runners r p).length fc, .slice r.ta r.protests.length r.tc] := fun _ _ => rfl
  generalize OrPost8 r p w = PP at *
  clear h
  have g0 : G w (w.alloc (.cells r.v 26)) := (G.rf _).a _
  have b0 : Blk (w.alloc (.cells r.v 26)) w.heap.size 26 r.v := Blk.new _ _ _
  have m0 : (w.alloc (.cells r.v 26)).cell? ⟨w.heap.size, 0, none⟩ = some (.slice r.ra r.racers.length r.rc) := b0.cell 0
  have m1 : (w.alloc (.cells r.v 26)).cell? ⟨w.heap.size, 1, none⟩ = some (.slice r.pa r.pools.length r.pc) := b0.cell 1
  have m2 : (w.alloc (.cells r.v 26)).cell? ⟨w.heap.size, 2, none⟩ = some (.slice r.ta r.protests.length r.tc) := b0.cell 2
  have l0 := b0.lt
  have hrv : r.v = #[.slice r.ra r.racers.length r.rc, .slice r.pa r.pools.length r.pc, .slice r.ta r.protests.length r.tc] := rfl
  rw [hrv] at HQ g0 m0 m1 m2 l0 ⊢
  clear hrv b0
  generalize hQE : qE r p [] = QE at *
  go_enter Tryz.func21, Tryz.ntmps21
  go_upto_region 1 with fail
  change Code.wp _ _ _ _ (w.alloc (.cells #[.slice r.ra r.racers.length r.rc, .slice r.pa r.pools.length r.pc, .slice r.ta r.protests.length r.tc] 26))
  generalize w.alloc (.cells #[.slice r.ra r.racers.length r.rc, .slice r.pa r.pools.length r.pc, .slice r.ta r.protests.length r.tc] 26) = W1 at *
  by_cases hq : QE = 0
  · have HQ1 : Hid (Calls Tryz.prog 46 #[.agg #[.slice r.ra r.racers.length r.rc, .slice r.pa r.pools.length r.pc, .slice r.ta r.protests.length r.tc], .int .i64 p, .slice none 0 0] W1 fun e w' => ∃ fa fc, e = .returned (.tuple #[.agg (fuOf r p fa fc).v, .int .i64 0]) ∧ w'.ownsRow W1.heap.size 60 5 (.slice fa (runners r p).length fc) (runners r p).length (rcV (runners r p)) ∧ G W1 w') := by
      refine (HQ.out W1 g0).mono ?_
      rintro e w' ⟨hG, hh⟩
      rcases hh with ⟨a, _⟩ | ⟨_, fa, fc, a, b⟩
      · exact absurd hq a
      · exact ⟨fa, fc, a, b, hG⟩
    simp only [hv] at HQ1
    clear HQ HE
    have HC2 := Lib.hid (HC.out hq)
    clear HC
    simp only [hv] at HC2
    go_upto_region 2 with (go_at_call 46; refine (HQ1.out).mono ?_; rintro e w2 ⟨fa, fc, rfl, ho2, hG2⟩)
    have hn : fa ≠ none ∨ runners r p = [] := by
      rcases ho2.2 with ⟨_, h0⟩ | ⟨g, cap, cur, he, _⟩
      · exact .inr (List.length_eq_zero_iff.1 h0)
      · exact .inl (fun e => by rw [e] at he; cases he)
    obtain ⟨a0, c0, hve, hrow⟩ := own_row ho2
    obtain ⟨rfl, rfl⟩ : fa = a0 ∧ fc = c0 := by simpa using hve
    have ga := (G.rf w2).a (.cells #[.int .i64 (poolAt r p).stake, .int .i64 (poolAt r p).cut, .int .i64 (poolAt r p).kind, .slice (poolAt r p).ta (poolAt r p).table.length (poolAt r p).tc, .int .i64 (poolAt r p).quota, .bool (poolAt r p).first, .slice fa (runners r p).length fc, .slice r.ta r.protests.length r.tc] 85)
    have HC3 := Lib.hid (HC2.out _ ((g0.t hG2).t ga) fa fc (hrow.below ga) hn)
    clear hve hrow hn ho2 HC2
    go_wp2_with (go_at_call 58; refine (HC3.out).mono ?_; rintro e w3 ⟨v, cs, Bl, rfl, ho3, hG3⟩)
    have gz := ((g0.t hG2).t ga).t hG3
    rw [HPL.out] at ho3
    exact HS.out hq _ _ cs Bl gz (ho3.weaken ((g0.t hG2).t ga).size)
  · have HQ0 : Hid (Calls Tryz.prog 46 #[.agg #[.slice r.ra r.racers.length r.rc, .slice r.pa r.pools.length r.pc, .slice r.ta r.protests.length r.tc], .int .i64 p, .slice none 0 0] W1 fun e w' => e = .returned (.tuple #[.agg #[.int .i64 0, .int .i64 0, .int .i64 0, .slice none 0 0, .int .i64 0, .bool false, .slice none 0 0, .slice none 0 0], .int .i64 QE]) ∧ G W1 w') := by
      refine (HQ.out W1 g0).mono ?_
      rintro e w' ⟨hG, hh⟩
      rcases hh with ⟨_, a⟩ | ⟨a, _⟩
      · exact ⟨a, hG⟩
      · exact absurd a hq
    have e0 : (QE == 0) = false := by simpa using hq
    have HE2 := Lib.hid (HE.out hq)
    clear HQ HE HC HS hv
    go_wp2_with (go_at_call 46; refine (HQ0.out).mono ?_; rintro e w2 ⟨rfl, hG2⟩)
    first | exact HE2.out _ (g0.t hG2) | exact HE2.out _ ((g0.t hG2).a _) | trace_state
end Go.Proofs.YtnkmcoljijmgpaaGreat
