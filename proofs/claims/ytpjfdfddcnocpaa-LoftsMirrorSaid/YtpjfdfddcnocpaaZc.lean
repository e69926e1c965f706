import Derived.Test.YtpjfdfddcnocpaaZa
import Derived.Test.YtpjfdfddcnocpaaZd
import Derived.Test.YtpjfdfddcnocpaaYb
set_option linter.unusedSimpArgs false
set_option linter.unusedVariables false
namespace Go.Proofs.Ytpjfdfddcnocpaa
open Go.RowKit
attribute [local go_sem] Oper.semAt_some

theorem mirL_get (last : Int) (svs : List Sv) (j : Nat) (h : j < svs.length) : (svs.map (mir last)).getD j default = mir last (svs.getD j default) := by
  simp [List.getD_eq_getElem?_getD, h]
/-- one row of the mirrored surveys is written: two columns of a box -/
theorem mir_step1 {gS cap n k : Nat} {B : Nat → Sv} {W2 wr : World} {last : Int} {s : Sv} {ob : Obj} (h : OrdI gS cap n (fun j => mir last (B j)) B W2 k wr) (hk : k < n) (hn : n ≤ cap) (hs : s = B k) (hkind : s.kind = 1) :
    OrdI gS cap n (fun j => mir last (B j)) B W2 (k + 1) (((wr.setCell ⟨gS, k * 10 + 2, none⟩ (.int .i64 (last - s.xh))).setCell ⟨gS, k * 10 + 2 + 1, none⟩ (.int .i64 (last - s.xl))).alloc ob) := by
  obtain ⟨⟨cur, hB, hz, hc⟩, hf⟩ := h
  refine ⟨⟨_, ((hB.set_ (k * 10 + 2) _).set_ (k * 10 + 3) _).alloc ob, by simpa using hz, fun j hj q hq => ?_⟩, ((hf.s (.inl rfl) _).s (.inl rfl) _).a ob⟩
  rw [Array.getElem?_setIfInBounds, Array.getElem?_setIfInBounds]
  have hb : j * 10 + q < cur.size := by omega
  have hsz : k * 10 + 3 < (cur.setIfInBounds (k * 10 + 2) (.int .i64 (last - s.xh))).size := by simp; omega
  have hsz2 : k * 10 + 2 < cur.size := by omega
  by_cases hjk : j = k
  · have e : mir last (B j) = { s with xl := last - s.xh, xh := last - s.xl } := by
      rw [hjk, ← hs]
      unfold mir
      rw [if_pos hkind]
    have hold := hc k hk q hq
    rw [if_neg (Nat.lt_irrefl k), ← hs] at hold
    have c2 : j < k + 1 := by omega
    rw [if_pos c2]
    show _ = (svC (mir last (B j)))[q]?
    rw [e, hjk]
    by_cases h3 : q = 3
    · have c3 : k * 10 + 3 = k * 10 + q := by omega
      rw [if_pos c3, if_pos hsz, h3]
      rfl
    · have c3 : ¬ k * 10 + 3 = k * 10 + q := by omega
      rw [if_neg c3]
      by_cases h2 : q = 2
      · have c4 : k * 10 + 2 = k * 10 + q := by omega
        rw [if_pos c4, if_pos hsz2, h2]
        rfl
      · have c4 : ¬ k * 10 + 2 = k * 10 + q := by omega
        rw [if_neg c4, hold]
        match q, hq, h2, h3 with
        | 0, _, _, _ => rfl
        | 1, _, _, _ => rfl
        | 4, _, _, _ => rfl
        | 5, _, _, _ => rfl
        | 6, _, _, _ => rfl
        | 7, _, _, _ => rfl
        | 8, _, _, _ => rfl
        | 9, _, _, _ => rfl
  · have c3 : ¬ k * 10 + 3 = j * 10 + q := by omega
    have c4 : ¬ k * 10 + 2 = j * 10 + q := by omega
    rw [if_neg c3, if_neg c4, hc j hj q hq]
    by_cases h4 : j < k
    · rw [if_pos h4, if_pos (by omega)]
    · rw [if_neg h4, if_neg (by omega)]
/-- .. the column of a tape -/
theorem mir_step2 {gS cap n k : Nat} {B : Nat → Sv} {W2 wr : World} {last : Int} {s : Sv} {ob : Obj} (h : OrdI gS cap n (fun j => mir last (B j)) B W2 k wr) (hk : k < n) (hn : n ≤ cap) (hs : s = B k) (hkind : ¬ s.kind = 1) :
    OrdI gS cap n (fun j => mir last (B j)) B W2 (k + 1) ((wr.setCell ⟨gS, k * 10 + 6, none⟩ (.int .i64 (last - s.ax))).alloc ob) := by
  obtain ⟨⟨cur, hB, hz, hc⟩, hf⟩ := h
  refine ⟨⟨_, (hB.set_ (k * 10 + 6) _).alloc ob, by simpa using hz, fun j hj q hq => ?_⟩, (hf.s (.inl rfl) _).a ob⟩
  rw [Array.getElem?_setIfInBounds]
  have hsz2 : k * 10 + 6 < cur.size := by omega
  by_cases hjk : j = k
  · have e : mir last (B j) = { s with ax := last - s.ax } := by
      rw [hjk, ← hs]
      unfold mir
      rw [if_neg hkind]
    have hold := hc k hk q hq
    rw [if_neg (Nat.lt_irrefl k), ← hs] at hold
    have c2 : j < k + 1 := by omega
    rw [if_pos c2]
    show _ = (svC (mir last (B j)))[q]?
    rw [e, hjk]
    by_cases h3 : q = 6
    · have c3 : k * 10 + 6 = k * 10 + q := by omega
      rw [if_pos c3, if_pos hsz2, h3]
      rfl
    · have c3 : ¬ k * 10 + 6 = k * 10 + q := by omega
      rw [if_neg c3, hold]
      match q, hq, h3 with
      | 0, _, _ => rfl
      | 1, _, _ => rfl
      | 2, _, _ => rfl
      | 3, _, _ => rfl
      | 4, _, _ => rfl
      | 5, _, _ => rfl
      | 7, _, _ => rfl
      | 8, _, _ => rfl
      | 9, _, _ => rfl
  · have c3 : ¬ k * 10 + 6 = j * 10 + q := by omega
    rw [if_neg c3, hc j hj q hq]
    by_cases h4 : j < k
    · rw [if_pos h4, if_pos (by omega)]
    · rw [if_neg h4, if_neg (by omega)]

section
variable (north wrong r rc px py qx qy : Int) (cols lofts o a b : Nat) (east : List Int) (svs : List Sv) (ea sa : Option Addr) (ec sc : Nat) (w : World)
set_option maxRecDepth 100000 in
set_option maxHeartbeats 8000000 in
theorem mirror_main (he : IntsAt w ea east) (hs : SvsAt w sa svs) (hn : sa = none → sc = 0) (hl : east.length ≤ 9223372036854775807) (hl2 : svs.length ≤ 9223372036854775807) (hv : validB north cols east lofts svs wrong = true) (hk : checkE north cols east lofts svs wrong = 0) (ho : o < lofts) (ha : a < lofts) (hb : b < lofts) :
    MirrorGoal north cols lofts wrong o a b r rc px py qx qy east svs ea sa ec sc w := by
  obtain ⟨g0, b0, b2⟩ := w2_spec w #[.int .i64 north, .int .i64 cols, .slice ea east.length ec, .int .i64 lofts, .slice sa svs.length sc, .int .i64 wrong] #[.int .i64 o, .int .i64 a, .int .i64 b, .int .i64 r, .int .i64 rc, .int .i64 px, .int .i64 py, .int .i64 qx, .int .i64 qy] 25 38
  obtain ⟨hv2, hsl, hso⟩ := checkE_zero hk
  have vb := vm_bounds hv2
  have hV := fun (W : World) (hW : G w W) => valid_any north cols lofts wrong east svs ea sa ec sc W (he.below hW) (hs.below hW) hl hl2
  rw [hv] at hV
  have HV := Lib.hid hV
  have HCp := Lib.hid (fun (W : World) (hW : G w W) => Copy_full north cols lofts wrong east svs ea sa ec sc W (he.below hW) (hs.below hW) (by omega) (by omega) (by omega) hn)
  have q1 : (decide (0 ≤ (a : Int)) && decide ((a : Int) < lofts)) = true := by simp; omega
  have q2 : (decide (0 ≤ (b : Int)) && decide ((b : Int) < lofts)) = true := by simp; omega
  have q3 : (decide (0 ≤ (o : Int)) && decide ((o : Int) < lofts)) = true := by simp; omega
  have HSO := Lib.hid (fun k (hk : k < svs.length) => (show svOk cols east.length lofts (svs.getD k default) = true by
    have := (List.all_eq_true.1 hso) svs[k] (List.getElem_mem hk)
    simpa [hk] using this))
  have hcb : 1 ≤ (cols : Int) ∧ (cols : Int) ≤ 10 := by omega
  have HK := Lib.hid hk
  have HVB := Lib.hid vb
  clear hV vb hk hv hso hv2
  unfold MirrorGoal
  go_enter Try.func8, Try.ntmps8
  go_wp2_with (first | (go_at_call 19; refine (HV.out _ g0).mono ?_; rintro e w1 ⟨rfl, hG1⟩; replace b0 := b0.keep hG1; replace b2 := b2.keep hG1; replace g0 := g0.t hG1; clear hG1; have m0 := b0.cell 0; have m1 := b0.cell 1; have m2 := b0.cell 2; have m3 := b0.cell 3; have m4 := b0.cell 4; have m5 := b0.cell 5; have a0 := b2.cell 0; have a1 := b2.cell 1; have a2 := b2.cell 2; have lM := b0.lt; have lA := b2.lt) | (go_at_call 21; refine (lawLoft_any _ _ _ _ _ _ _ _).mono ?_; rintro e w1 ⟨rfl, hG1⟩; clear m0 m1 m2 m3 m4 m5 a0 a1 a2 lM lA; replace b0 := b0.keep hG1; replace b2 := b2.keep hG1; replace g0 := g0.t hG1; clear hG1; have m0 := b0.cell 0; have m1 := b0.cell 1; have m2 := b0.cell 2; have m3 := b0.cell 3; have m4 := b0.cell 4; have m5 := b0.cell 5; have a0 := b2.cell 0; have a1 := b2.cell 1; have a2 := b2.cell 2; have lM := b0.lt; have lA := b2.lt) | (go_at_call 28; refine (HCp.out _ g0).mono ?_; rintro e w4 ⟨gE, capE, curE, gS, capS, curS, rfl, hgE, bE, hcE, hG1, hgS, bS⟩; clear m0 m1 m2 m3 m4 m5 a0 a1 a2 lM lA; have lb2 := b2.lt; replace b0 := b0.keep hG1; replace b2 := b2.keep hG1; replace g0 := g0.t hG1; clear hG1; have m0 := b0.cell 0; have m1 := b0.cell 1; have m2 := b0.cell 2; have m3 := b0.cell 3; have m4 := b0.cell 4; have m5 := b0.cell 5; have a0 := b2.cell 0; have a1 := b2.cell 1; have a2 := b2.cell 2; have lM := b0.lt; have lA := b2.lt))
  obtain ⟨N, hN⟩ : ∃ N, N = w4.heap.size := ⟨_, rfl⟩
  rw [← hN]
  have b5 := b0.alloc (.cells #[.int .i64 north, .int .i64 cols, .slice (some ⟨gE, 0, none⟩) east.length capE, .int .i64 lofts, .slice (some ⟨gS, 0, none⟩) svs.length capS, .int .i64 wrong] 25)
  have b6 := b2.alloc (.cells #[.int .i64 north, .int .i64 cols, .slice (some ⟨gE, 0, none⟩) east.length capE, .int .i64 lofts, .slice (some ⟨gS, 0, none⟩) svs.length capS, .int .i64 wrong] 25)
  have bO : Blk (w4.alloc (.cells #[.int .i64 north, .int .i64 cols, .slice (some ⟨gE, 0, none⟩) east.length capE, .int .i64 lofts, .slice (some ⟨gS, 0, none⟩) svs.length capS, .int .i64 wrong] 25)) N 25 _ := Blk.newAt hN.symm _ _
  have g5 := g0.a (.cells #[.int .i64 north, .int .i64 cols, .slice (some ⟨gE, 0, none⟩) east.length capE, .int .i64 lofts, .slice (some ⟨gS, 0, none⟩) svs.length capS, .int .i64 wrong] 25)
  have bE5 := bE.alloc (.cells #[.int .i64 north, .int .i64 cols, .slice (some ⟨gE, 0, none⟩) east.length capE, .int .i64 lofts, .slice (some ⟨gS, 0, none⟩) svs.length capS, .int .i64 wrong] 25)
  have bS5 := bS.keep ((G.rf w4).a (.cells #[.int .i64 north, .int .i64 cols, .slice (some ⟨gE, 0, none⟩) east.length capE, .int .i64 lofts, .slice (some ⟨gS, 0, none⟩) svs.length capS, .int .i64 wrong] 25))
  generalize w4.alloc (.cells #[.int .i64 north, .int .i64 cols, .slice (some ⟨gE, 0, none⟩) east.length capE, .int .i64 lofts, .slice (some ⟨gS, 0, none⟩) svs.length capS, .int .i64 wrong] 25) = W5 at *
  have HNN := Lib.hid hN
  clear m0 m1 m2 m3 m4 m5 a0 a1 a2 lM lA hN b0 b2 g0 bE bS
  have nS1 := b5.ne bS5.1 (by decide)
  have nS2 := bO.ne bS5.1 (by decide)
  have nS3 := bE5.ne bS5.1 (by decide)
  have nS4 := b6.ne bS5.1 (by decide)
  have hwS : w.heap.size ≤ gS := by omega
  have lg5 := g5.size
  obtain ⟨lS5, hcap1, hcap2, hcs, hct⟩ := bS5
  go_loopw [7] (fun i wr => ∃ k : Nat, k ≤ svs.length ∧ i = .int .i64 k ∧ OrdI gS capS svs.length (fun j => mir ((cols : Int) - 1) (svs.getD j default)) (fun j => svs.getD j default) W5 k wr) (fun i _ => svs.length - (intOf i).toNat)
  case atStart =>
    refine ⟨0, Nat.zero_le _, rfl, ⟨curS, lS5, hcs, fun j hj q hq => ?_⟩, Fr.rf _ _⟩
    rw [if_neg (by omega), ← svCells_get svs j q hj hq, ← hct, List.getElem?_take_of_lt (by omega)]
    simp
  case round =>
    obtain ⟨k, hkn, rfl, hOI⟩ := hrel
    have HOI := Lib.hid hOI
    obtain ⟨⟨cur, bC, hcz, hcu⟩, hfr⟩ := hOI
    have e0 := hfr.blk b5 nS1
    have eO := hfr.blk bO nS2
    have eE := hfr.blk bE5 nS3
    have e2 := hfr.blk b6 nS4
    have k4 := e0.cell 4
    have gr : G w wr := ((G.fr (R := fun _ => False) g5).t2 hfr (fun i hi h => by replace h : i = gS := h; omega)).toG (fun _ _ h => h)
    by_cases hlt : k < svs.length
    · rcases hs.below gr with rfl | ⟨bb, off, rfl, hbb, hcc⟩
      · simp at hlt
      have hsrc := hcc k hlt
      have hsx := HSO.out k hlt
      have hold : ∃ s0, SvCells wr gS (k * 10) s0 := ⟨svs.getD k default, SvCells.of fun q hq => by
        rw [bC.cell, hcu k hlt q hq, if_neg (Nat.lt_irrefl k)]⟩
      obtain ⟨s0, hdst⟩ := hold
      obtain ⟨s, hsv⟩ : ∃ s, s = svs.getD k default := ⟨_, rfl⟩
      rw [← hsv] at hsrc hsx
      have hst1 := fun hkind => mir_step1 (s := s) (ob := .cells #[.int .i64 s.loft, .int .i64 s.kind, .int .i64 s.xl, .int .i64 s.xh, .int .i64 s.yl, .int .i64 s.yh, .int .i64 s.ax, .int .i64 s.ay, .int .i64 s.dl, .int .i64 s.dh] 56) HOI.out hlt hcap1 hsv hkind
      have hst2 := fun hkind => mir_step2 (s := s) (ob := .cells #[.int .i64 s.loft, .int .i64 s.kind, .int .i64 s.xl, .int .i64 s.xh, .int .i64 s.yl, .int .i64 s.yh, .int .i64 s.ax, .int .i64 s.ay, .int .i64 s.dl, .int .i64 s.dh] 56) HOI.out hlt hcap1 hsv hkind
      have HST1 := Lib.hid hst1
      have HST2 := Lib.hid hst2
      have x0 := hsrc.1
      have x1 := hsrc.2.1
      have x2 := hsrc.2.2.1
      have x3 := hsrc.2.2.2.1
      have x4 := hsrc.2.2.2.2.1
      have x5 := hsrc.2.2.2.2.2.1
      have x6 := hsrc.2.2.2.2.2.2.1
      have x7 := hsrc.2.2.2.2.2.2.2.1
      have x8 := hsrc.2.2.2.2.2.2.2.2.1
      have x9 := hsrc.2.2.2.2.2.2.2.2.2
      have o4 := eO.cell 4
      have lC := bC.lt
      have lO := eO.lt
      by_cases hkind : s.kind = 1
      · have hst := HST1.out hkind
        have HST := Lib.hid hst
        have d2 : wr.cell? ⟨gS, k * 10 + 2, none⟩ = some (.int .i64 s0.xl) := hdst.2.2.1
        have d3 : wr.cell? ⟨gS, k * 10 + 3, none⟩ = some (.int .i64 s0.xh) := hdst.2.2.2.1
        have z2 := bC.frozen (k * 10 + 2)
        have z3 := bC.frozen (k * 10 + 3)
        have hb2 : 0 ≤ s.xl ∧ s.xl ≤ s.xh ∧ s.xh ≤ (cols : Int) - 1 := by
          unfold svOk validSurveyB isSpanB at hsx
          rw [if_pos hkind] at hsx
          simp only [Bool.and_eq_true, decide_eq_true_eq] at hsx
          omega
        obtain ⟨y1, y2, y3⟩ := hb2
        have hkb : (s.kind == 1) = true := by simp [hkind]
        clear hst hst1 hst2 HST1 HST2 hdst hcc hsrc hsx hsv HOI hcu hkind
        go_wp2
        exact ⟨⟨k + 1, by omega, by simp, HST.out⟩, by simp [intOf]; omega⟩
      · have hst := HST2.out hkind
        have HST := Lib.hid hst
        have d6 : wr.cell? ⟨gS, k * 10 + 6, none⟩ = some (.int .i64 s0.ax) := hdst.2.2.2.2.2.2.1
        have z6 := bC.frozen (k * 10 + 6)
        have hb2 := (svOk_tape hsx hkind).1
        have hb3 : 0 ≤ s.ax ∧ s.ax ≤ (cols : Int) - 1 := by
          unfold isPlaceB isInB at hb2
          simp only [Bool.and_eq_true, decide_eq_true_eq] at hb2
          omega
        obtain ⟨y1, y2⟩ := hb3
        have hkb : (s.kind == 1) = false := by simp [hkind]
        clear hst hst1 hst2 HST1 HST2 hdst hcc hsrc hsx hsv HOI hcu hkind hb2
        go_wp2
        exact ⟨⟨k + 1, by omega, by simp, HST.out⟩, by simp [intOf]; omega⟩
    · obtain rfl : k = svs.length := by omega
      have vb := HVB.out
      have hk2 := checkE_mir (cols := (cols : Int)) HK.out
      have hs2 : SvsAt wr (some ⟨gS, 0, none⟩) (svs.map (mir ((cols : Int) - 1))) := .inr ⟨gS, 0, rfl, bC.lt, fun j hj => by
        have hj' : j < svs.length := by simpa using hj
        rw [mirL_get _ _ _ hj']
        exact SvCells.of fun q hq => by
          have h := hcu j hj' q hq
          rw [if_pos hj'] at h
          rw [bC.cell, Nat.zero_add]
          exact h⟩
      have he2 := east_at eE hcE
      have hfm := few_mir north cols east svs (lofts := lofts) (by omega) (by omega)
      have hlen : (svs.map (mir ((cols : Int) - 1))).length = svs.length := List.length_map _
      have hAl := alike_of north wrong r rc px py qx qy cols lofts o a b east svs (svs.map (mir ((cols : Int) - 1))) ea sa (some ⟨gE, 0, none⟩) (some ⟨gS, 0, none⟩) ec sc capE capS wr (he.below gr) (hs.below gr) he2 hs2 HK.out hk2 ho ha hb
        (many_mir north cols east svs (by omega) (by omega)).symm hfm.symm
      rw [hfm] at hAl
      have hA := hAl (places_mir north cols east svs (by omega) (by omega)).symm (lo_mir (by omega) (by omega) (by simp [ha, hb]) (by simp) (by simp)) (hi_mir (by omega) (by omega) (by simp [ha, hb]) (by simp) (by simp)) (near_mir (by omega) (by omega) (by simp [ho, ha, hb]) (by simp) (by simp) (by simp) (fun h => truths_ne HK.out h))
      unfold AlikeGoal at hA
      rw [hlen] at hA
      have HA := Lib.hid hA
      clear hA hAl
      have m0 := e0.cell 0
      have m1 := e0.cell 1
      have m2 := e0.cell 2
      have m3 := e0.cell 3
      have m5 := e0.cell 5
      have o0 := eO.cell 0
      have o1 := eO.cell 1
      have o2 := eO.cell 2
      have o3 := eO.cell 3
      have o4 := eO.cell 4
      have o5 := eO.cell 5
      have x0 := e2.cell 0
      have x1 := e2.cell 1
      have x2 := e2.cell 2
      have x3 := e2.cell 3
      have x4 := e2.cell 4
      have x5 := e2.cell 5
      have x6 := e2.cell 6
      have x7 := e2.cell 7
      have x8 := e2.cell 8
      have gx := G.rf wr
      have lM := e0.lt
      have lO := eO.lt
      have lA := e2.lt
      by_cases hw : wrong < fewSum north cols east svs lofts
      · have HP1 := Lib.hid (fun (W : World) (hW : G wr W) => Places_none north wrong cols lofts b east svs ea sa ec sc W (he.below (gr.t hW)) (hs.below (gr.t hW)) HK.out hb hw)
        have hP2 := fun (W : World) (hW : G wr W) => Places_none north wrong cols lofts b east (svs.map (mir ((cols : Int) - 1))) (some ⟨gE, 0, none⟩) (some ⟨gS, 0, none⟩) capE capS W (he2.below hW) (hs2.below hW) hk2 hb (by rw [hfm]; exact hw)
        rw [hlen] at hP2
        have HP2 := Lib.hid hP2
        clear HOI hcu hcz bC hfr hs2 HCp HV hP2 hlen hfm hk2 vb HVB HSO
        go_wp2_with fail
        refine HA.out.mono ?_
        rintro e w6 ⟨rfl, hG1⟩
        replace e0 := e0.keep hG1; replace eO := eO.keep hG1; replace e2 := e2.keep hG1; replace gr := gr.t hG1; replace gx := gx.t hG1; clear hG1 m0 m1 m2 m3 m5 k4 o0 o1 o2 o3 o4 o5 x0 x1 x2 x3 x4 x5 x6 x7 x8; have m0 := e0.cell 0; have m1 := e0.cell 1; have m2 := e0.cell 2; have m3 := e0.cell 3; have k4 := e0.cell 4; have m5 := e0.cell 5; have o0 := eO.cell 0; have o1 := eO.cell 1; have o2 := eO.cell 2; have o3 := eO.cell 3; have o4 := eO.cell 4; have o5 := eO.cell 5; have x0 := e2.cell 0; have x1 := e2.cell 1; have x2 := e2.cell 2; have x3 := e2.cell 3; have x4 := e2.cell 4; have x5 := e2.cell 5; have x6 := e2.cell 6; have x7 := e2.cell 7; have x8 := e2.cell 8; have lM := e0.lt; have lO := eO.lt; have lA := e2.lt
        go_wp2_with fail
        refine (HP1.out _ gx).mono ?_
        rintro e w7 ⟨rfl, hG1⟩
        replace e0 := e0.keep hG1; replace eO := eO.keep hG1; replace e2 := e2.keep hG1; replace gr := gr.t hG1; replace gx := gx.t hG1; clear hG1 m0 m1 m2 m3 m5 k4 o0 o1 o2 o3 o4 o5 x0 x1 x2 x3 x4 x5 x6 x7 x8; have m0 := e0.cell 0; have m1 := e0.cell 1; have m2 := e0.cell 2; have m3 := e0.cell 3; have k4 := e0.cell 4; have m5 := e0.cell 5; have o0 := eO.cell 0; have o1 := eO.cell 1; have o2 := eO.cell 2; have o3 := eO.cell 3; have o4 := eO.cell 4; have o5 := eO.cell 5; have x0 := e2.cell 0; have x1 := e2.cell 1; have x2 := e2.cell 2; have x3 := e2.cell 3; have x4 := e2.cell 4; have x5 := e2.cell 5; have x6 := e2.cell 6; have x7 := e2.cell 7; have x8 := e2.cell 8; have lM := e0.lt; have lO := eO.lt; have lA := e2.lt
        go_wp2_with fail
        refine (HP2.out _ gx).mono ?_
        rintro e w8 ⟨rfl, hG1⟩
        replace e0 := e0.keep hG1; replace eO := eO.keep hG1; replace e2 := e2.keep hG1; replace gr := gr.t hG1; replace gx := gx.t hG1; clear hG1 m0 m1 m2 m3 m5 k4 o0 o1 o2 o3 o4 o5 x0 x1 x2 x3 x4 x5 x6 x7 x8; have m0 := e0.cell 0; have m1 := e0.cell 1; have m2 := e0.cell 2; have m3 := e0.cell 3; have k4 := e0.cell 4; have m5 := e0.cell 5; have o0 := eO.cell 0; have o1 := eO.cell 1; have o2 := eO.cell 2; have o3 := eO.cell 3; have o4 := eO.cell 4; have o5 := eO.cell 5; have x0 := e2.cell 0; have x1 := e2.cell 1; have x2 := e2.cell 2; have x3 := e2.cell 3; have x4 := e2.cell 4; have x5 := e2.cell 5; have x6 := e2.cell 6; have x7 := e2.cell 7; have x8 := e2.cell 8; have lM := e0.lt; have lO := eO.lt; have lA := e2.lt
        go_wp2_with fail
        go_loopw [13] (fun i wz => i = .int .i64 0 ∧ G w wz) (fun _ _ => 0)
        case atStart => exact ⟨rfl, gr⟩
        case round =>
          obtain ⟨rfl, hGz⟩ := hrel
          go_wp2_with (go_at_call 16; refine (works_any _).mono ?_; rintro e w9 ⟨rfl, hG9⟩)
          go_ret
          exact ⟨rfl, hGz.t hG9⟩
      · have hlP : ∀ (sv : List Sv) (sp : Int), (truthsOf (spotsOf north cols east sv) [b] sp).length ≤ 100 := fun sv sp => Nat.le_trans truths_one_len (spotsOf_len north cols east sv b (by omega) (by omega))
        have hw2 : ¬ wrong < fewSum north cols east (svs.map (mir ((cols : Int) - 1))) lofts := by rw [hfm]; exact hw
        have HP1 := Lib.hid (fun (W : World) (hW : G wr W) => Places_ok north wrong cols lofts b east svs ea sa ec sc W (he.below (gr.t hW)) (hs.below (gr.t hW)) HK.out hb hw (Nat.le_trans (hlP _ _) (by omega)))
        have hP2 := fun (W : World) (hW : G wr W) => Places_ok north wrong cols lofts b east (svs.map (mir ((cols : Int) - 1))) (some ⟨gE, 0, none⟩) (some ⟨gS, 0, none⟩) capE capS W (he2.below hW) (hs2.below hW) hk2 hb hw2 (Nat.le_trans (hlP _ _) (by omega))
        rw [hlen] at hP2
        unfold PlacesPost at HP1 hP2
        rw [hfm] at hP2
        have hna1 := truths_ne (ls := [b]) HK.out hw
        have hna2 := truths_ne (ls := [b]) hk2 hw2
        rw [hfm] at hna2
        have hmm := (set_mir (north := north) (wrong := wrong) (lofts := lofts) (east := east) (svs := svs) (ls := [b]) (cols := cols) (by omega) (by omega) (by simp [hb]) hw).1
        have hpl := hlP svs (wrong - fewSum north cols east svs lofts)
        have hPM := places_mir north cols east svs (l := b) (sp := wrong - fewSum north cols east svs lofts) (by omega) (by omega)
        generalize truthsOf (spotsOf north cols east svs) [b] (wrong - fewSum north cols east svs lofts) = LP at *
        generalize truthsOf (spotsOf north cols east (svs.map (mir ((cols : Int) - 1)))) [b] (wrong - fewSum north cols east svs lofts) = LQ at *
        have hin : ∀ q ∈ LP.map fun g => g b, q.1 < cols ∧ (cols - 1 - q.1, q.2) ∈ LQ.map fun g => g b := fun q hq => by
          obtain ⟨g, hg, rfl⟩ := List.mem_map.1 hq
          obtain ⟨h1, h2⟩ := hmm g hg
          exact ⟨h2 b (by simp), List.mem_map.2 ⟨_, h1, by simp [mf, mp]⟩⟩
        have HP2 := Lib.hid hP2
        have hcb := HVB.out.1
        clear HOI hcu hcz bC hfr hs2 HCp HV hP2 hlen hfm hk2 vb HVB HSO hw2 hmm hlP
        go_wp2_with fail
        refine HA.out.mono ?_
        rintro e w6 ⟨rfl, hG1⟩
        replace e0 := e0.keep hG1; replace eO := eO.keep hG1; replace e2 := e2.keep hG1; replace gr := gr.t hG1; replace gx := gx.t hG1; clear hG1 m0 m1 m2 m3 m5 k4 o0 o1 o2 o3 o4 o5 x0 x1 x2 x3 x4 x5 x6 x7 x8; have m0 := e0.cell 0; have m1 := e0.cell 1; have m2 := e0.cell 2; have m3 := e0.cell 3; have k4 := e0.cell 4; have m5 := e0.cell 5; have o0 := eO.cell 0; have o1 := eO.cell 1; have o2 := eO.cell 2; have o3 := eO.cell 3; have o4 := eO.cell 4; have o5 := eO.cell 5; have x0 := e2.cell 0; have x1 := e2.cell 1; have x2 := e2.cell 2; have x3 := e2.cell 3; have x4 := e2.cell 4; have x5 := e2.cell 5; have x6 := e2.cell 6; have x7 := e2.cell 7; have x8 := e2.cell 8; have lM := e0.lt; have lO := eO.lt; have lA := e2.lt
        go_wp2_with fail
        refine (HP1.out _ gx).mono ?_
        rintro e w7 ⟨v7, rfl, hPo, hG1⟩
        replace e0 := e0.keep hG1; replace eO := eO.keep hG1; replace e2 := e2.keep hG1; replace gr := gr.t hG1; replace gx := gx.t hG1; clear hG1 m0 m1 m2 m3 m5 k4 o0 o1 o2 o3 o4 o5 x0 x1 x2 x3 x4 x5 x6 x7 x8; have m0 := e0.cell 0; have m1 := e0.cell 1; have m2 := e0.cell 2; have m3 := e0.cell 3; have k4 := e0.cell 4; have m5 := e0.cell 5; have o0 := eO.cell 0; have o1 := eO.cell 1; have o2 := eO.cell 2; have o3 := eO.cell 3; have o4 := eO.cell 4; have o5 := eO.cell 5; have x0 := e2.cell 0; have x1 := e2.cell 1; have x2 := e2.cell 2; have x3 := e2.cell 3; have x4 := e2.cell 4; have x5 := e2.cell 5; have x6 := e2.cell 6; have x7 := e2.cell 7; have x8 := e2.cell 8; have lM := e0.lt; have lO := eO.lt; have lA := e2.lt
        obtain ⟨gP, cP, rfl, lP, hPA⟩ := pts_of hna1 hPo
        go_wp2_with fail
        refine (HP2.out _ gx).mono ?_
        rintro e w8 ⟨v8, rfl, hQo, hG1⟩
        replace hPA := hPA.keep lP hG1
        replace lP := Nat.lt_of_lt_of_le lP hG1.size
        replace e0 := e0.keep hG1; replace eO := eO.keep hG1; replace e2 := e2.keep hG1; replace gr := gr.t hG1; replace gx := gx.t hG1; clear hG1 m0 m1 m2 m3 m5 k4 o0 o1 o2 o3 o4 o5 x0 x1 x2 x3 x4 x5 x6 x7 x8; have m0 := e0.cell 0; have m1 := e0.cell 1; have m2 := e0.cell 2; have m3 := e0.cell 3; have k4 := e0.cell 4; have m5 := e0.cell 5; have o0 := eO.cell 0; have o1 := eO.cell 1; have o2 := eO.cell 2; have o3 := eO.cell 3; have o4 := eO.cell 4; have o5 := eO.cell 5; have x0 := e2.cell 0; have x1 := e2.cell 1; have x2 := e2.cell 2; have x3 := e2.cell 3; have x4 := e2.cell 4; have x5 := e2.cell 5; have x6 := e2.cell 6; have x7 := e2.cell 7; have x8 := e2.cell 8; have lM := e0.lt; have lO := eO.lt; have lA := e2.lt
        obtain ⟨gQ, cQ, rfl, lQ, hQA⟩ := pts_of hna2 hQo
        have eP : LP.length = (LP.map fun g => g b).length := by simp
        have eQ : LQ.length = (LQ.map fun g => g b).length := by simp
        rw [eP, eQ] at hPM
        rw [eP] at hpl
        rw [eP, eQ]
        generalize (LP.map fun g => g b) = P at *
        generalize (LQ.map fun g => g b) = Q at *
        have hpq : ¬ Q.length < P.length := by omega
        have HPM : Hid (Q.length = P.length) := hPM
        rw [hPM]
        have HIN := Lib.hid hin
        clear hPo hQo eP eQ hna1 hna2 HP1 HP2 hin hPM
        go_wp2_with fail
        go_loopw [13] (fun i wz => ∃ k : Nat, k ≤ P.length ∧ i = .int .i64 k ∧ G w8 wz) (fun i _ => P.length - (intOf i).toNat)
        case atStart => exact ⟨0, Nat.zero_le _, rfl, G.rf _⟩
        case round =>
          obtain ⟨k, hkP, rfl, hGz⟩ := hrel
          by_cases hlt : k < P.length
          · obtain ⟨c1, c2⟩ := hPA.keep lP hGz k hlt
            obtain ⟨hpx, hinQ⟩ := HIN.out (P.getD k (0, 0)) (by simp [hlt])
            obtain ⟨pp, hpp⟩ : ∃ pp, pp = P.getD k (0, 0) := ⟨_, rfl⟩
            rw [← hpp] at c1 c2 hpx hinQ
            have hx1 : (((cols - 1 - pp.1 : Nat) : Int)) = (cols : Int) - 1 - pp.1 := by omega
            have hany : Q.any (isP ((cols : Int) - 1 - pp.1) pp.2) = true := List.any_eq_true.2 ⟨_, hinQ, by simp [isP, hx1]⟩
            have hHas := fun (W : World) (hW : G w8 W) => has_any gQ cQ Q ((cols : Int) - 1 - pp.1) pp.2 W (Nat.lt_of_lt_of_le lQ hW.size) (hQA.keep lQ hW) (by rw [HPM.out]; omega)
            rw [hany, HPM.out] at hHas
            have HHas := Lib.hid hHas
            have cp1 : ∀ x : GW wr, x.w.cell? ⟨gP, k * 2, none⟩ = some (.int .i64 pp.1) := fun x => ((bcellB x.g).1 _ _ (Nat.lt_of_lt_of_le lP hGz.size)).trans c1
            have cp2 : ∀ x : GW wr, x.w.cell? ⟨gP, k * 2 + 1, none⟩ = some (.int .i64 pp.2) := fun x => ((bcellB x.g).1 _ _ (Nat.lt_of_lt_of_le lP hGz.size)).trans c2
            have w1 : IntKind.i64.wrap ((cols : Int) - 1 - pp.1) = (cols : Int) - 1 - pp.1 := IntWalk.i64_in _ (by omega)
            have hb1 : (pp.1 : Int) < cols := by omega
            clear hHas hany hinQ hpp hx1 c1 c2
            go_wp2_with fail
            refine wp_region_quiet_G (by kernel_rfl) (by kernel_rfl) ?_
            repeat (quiet_step (first | (go_at_call 23; exact Calls.gq (HHas.out _ (hGz.t (GW.g _))))))
            refine wpQuiet_nil ?_
            intro _ hw'
            obtain ⟨y, rfl⟩ := hw'
            clear cp1 cp2
            have HY := Lib.hid (hGz.t y.g)
            clear hGz w1
            go_wp2
            go_roundw
            case rel => exact ⟨k + 1, by omega, by go_num, HY.out⟩
            case measure => simp [intOf]; omega
          · obtain rfl : k = P.length := by omega
            have HY := Lib.hid (gr.t hGz)
            clear hGz
            go_wp2_with (go_at_call 16; refine (works_any _).mono ?_; rintro e w9 ⟨rfl, hG9⟩)
            go_ret
            exact ⟨rfl, HY.out.t hG9⟩
end
end Go.Proofs.Ytpjfdfddcnocpaa
