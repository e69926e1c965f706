import Derived.Test.YtpjfdfddcnocpaaXb
set_option linter.unusedSimpArgs false
set_option linter.unusedVariables false
namespace Go.Proofs.Ytpjfdfddcnocpaa
open Go.RowKit
attribute [local go_sem] Oper.semAt_some

/-- the loop: the first k widths are t times as great -/
def ScaleI (gE : Nat) (east : List Int) (t : Int) (W2 : World) (k : Nat) (wr : World) : Prop :=
  (∃ cur, Blk wr gE 3 cur ∧ ∀ j, j < east.length → cur[j]? = some (.int .i64 (if j < k then east.getD j 0 * t else east.getD j 0))) ∧ Fr (fun i => i = gE) W2 wr

set_option maxRecDepth 100000 in
set_option maxHeartbeats 4000000 in
theorem scale_main (north cols lofts wrong t f a b r rc px qx : Int) (p q : Nat) (east : List Int) (svs : List Sv) (ea sa : Option Addr) (ec sc : Nat) (w : World) (he : IntsAt w ea east) (hs : SvsAt w sa svs) (hn : sa = none → sc = 0)
    (h : ¬ 40 < east.length) (h2 : ¬ 60 < svs.length) (h3 : ¬ t < 1) (h4 : ¬ 1000 < t) (hk : checkE north cols east lofts svs wrong = 0) (hp : isPlaceB cols east.length px p = true) (hq : isPlaceB cols east.length qx q = true) :
    ScaleGoal north cols lofts wrong t f a b r rc px p qx q east svs ea sa ec sc w := by
  have hv := checkE_ok hk
  have hvb := vm_bounds hv
  have hl : east.length ≤ 9223372036854775807 := by omega
  have hl2 : svs.length ≤ 9223372036854775807 := by omega
  obtain ⟨g0, b0, b1⟩ := w2_spec w #[.int .i64 north, .int .i64 cols, .slice ea east.length ec, .int .i64 lofts, .slice sa svs.length sc, .int .i64 wrong] #[.int .i64 f, .int .i64 a, .int .i64 b, .int .i64 r, .int .i64 rc, .int .i64 px, .int .i64 p, .int .i64 qx, .int .i64 q] 25 38
  have h' : ¬ (40 : Int) < east.length := by omega
  have h2' : ¬ (60 : Int) < svs.length := by omega
  have hC := fun (W : World) (hW : G w W) => rCheck_any north cols lofts wrong east svs ea sa ec sc W (he.below hW) (hs.below hW) hl hl2
  rw [hk] at hC
  have hcb : 0 ≤ cols ∧ cols ≤ 9223372036854775807 := by omega
  have hCp := fun (W : World) (hW : G w W) => Copy_any north cols lofts wrong east svs ea sa ec sc W (he.below hW) (hs.below hW) (by omega) (by omega) (by omega) hn
  obtain ⟨nn1, nn2⟩ := mul_bd (A := 2000000) (B := 1000) (a := north) (b := t) (by omega) (by omega) (by omega) (by omega)
  have x0 : IntKind.i64.wrap (north * t) = north * t := IntWalk.i64_in _ (by omega)
  have hel : ∀ j, j < east.length → IntKind.i64.wrap (east.getD j 0 * t) = east.getD j 0 * t := fun j hj => by
    have hm := hvb.2.2.2.2.2 (east.getD j 0) (by simp [hj])
    obtain ⟨y1, y2⟩ := mul_bd (A := 2000000) (B := 1000) (a := east.getD j 0) (b := t) (by omega) (by omega) (by omega) (by omega)
    exact IntWalk.i64_in _ (by omega)
  have HEL := Lib.hid hel
  have HC := Lib.hid hC
  have HCp := Lib.hid hCp
  have HVB := Lib.hid hvb
  have HK := Lib.hid hk
  have HV := Lib.hid hv
  clear hC hCp hel hvb hk hv nn1 nn2
  unfold ScaleGoal
  go_enter Try.func10, Try.ntmps10
  go_wp2_with (first | (go_at_call 14; refine (HC.out _ g0).mono ?_; rintro e w1 ⟨rfl, hG1⟩; replace b0 := b0.keep hG1; replace b1 := b1.keep hG1; have m0 := b0.cell 0; have m1 := b0.cell 1; have m2 := b0.cell 2; have m3 := b0.cell 3; have m4 := b0.cell 4; have m5 := b0.cell 5; have p0 := b1.cell 5; have p1 := b1.cell 6; have q0 := b1.cell 7; have q1 := b1.cell 8; replace g0 := g0.t hG1; clear hG1) | (go_at_call 15; refine (rPlace_any _ _ _ _ _ _ _ _ _ _ _ hcb hl).mono ?_; rintro e w1 ⟨rfl, hG1⟩; clear m0 m1 m2 m3 m4 m5 p0 p1 q0 q1; replace b0 := b0.keep hG1; replace b1 := b1.keep hG1; have m0 := b0.cell 0; have m1 := b0.cell 1; have m2 := b0.cell 2; have m3 := b0.cell 3; have m4 := b0.cell 4; have m5 := b0.cell 5; have p0 := b1.cell 5; have p1 := b1.cell 6; have q0 := b1.cell 7; have q1 := b1.cell 8; replace g0 := g0.t hG1; clear hG1) | (go_at_call 28; refine (HCp.out _ g0).mono ?_; rintro e w1 ⟨gE, capE, curE, sv, kv, cv, rfl, hgE, bE, hcur, hG1⟩; clear m0 m1 m2 m3 m4 m5 p0 p1 q0 q1; have hgE2 := Nat.lt_of_lt_of_le b1.lt hgE; replace b0 := b0.keep hG1; replace b1 := b1.keep hG1; replace g0 := g0.t hG1; clear hG1 hgE))
  have lE := bE.lt
  have l1 := b1.lt
  have bo := Blk.new w1 25 #[.int .i64 (north * t), .int .i64 cols, .slice (some ⟨gE, 0, none⟩) east.length capE, .int .i64 lofts, .slice none 0 0, .int .i64 wrong]
  replace b0 := b0.alloc (.cells #[.int .i64 (north * t), .int .i64 cols, .slice (some ⟨gE, 0, none⟩) east.length capE, .int .i64 lofts, .slice none 0 0, .int .i64 wrong] 25)
  replace b1 := b1.alloc (.cells #[.int .i64 (north * t), .int .i64 cols, .slice (some ⟨gE, 0, none⟩) east.length capE, .int .i64 lofts, .slice none 0 0, .int .i64 wrong] 25)
  replace bE := bE.alloc (.cells #[.int .i64 (north * t), .int .i64 cols, .slice (some ⟨gE, 0, none⟩) east.length capE, .int .i64 lofts, .slice none 0 0, .int .i64 wrong] 25)
  replace g0 := g0.a (.cells #[.int .i64 (north * t), .int .i64 cols, .slice (some ⟨gE, 0, none⟩) east.length capE, .int .i64 lofts, .slice none 0 0, .int .i64 wrong] 25)
  generalize w1.alloc (.cells #[.int .i64 (north * t), .int .i64 cols, .slice (some ⟨gE, 0, none⟩) east.length capE, .int .i64 lofts, .slice none 0 0, .int .i64 wrong] 25) = W2 at *
  generalize w1.heap.size = OB at *
  have hE0 : ∀ j, j < east.length → curE[j]? = some (.int .i64 (east.getD j 0)) := fun j hj => by
    have e1 : (curE.toList.take east.length)[j]? = (east.map (Value.int .i64))[j]? := by rw [hcur]
    rw [List.getElem?_take_of_lt hj] at e1
    simpa [hj] using e1
  clear hcur
  have HE0 := Lib.hid hE0
  clear hE0
  go_loopw [8] (fun i wr => ∃ k : Nat, k ≤ east.length ∧ i = .int .i64 k ∧ ScaleI gE east t W2 k wr) (fun i _ => east.length - (intOf i).toNat)
  case atStart => exact ⟨0, Nat.zero_le _, rfl, ⟨curE, bE, fun j hj => by rw [if_neg (by omega)]; exact HE0.out j hj⟩, Fr.rf _ _⟩
  case round =>
    obtain ⟨k, hk, rfl, ⟨cur, bC, hcu⟩, hfr⟩ := hrel
    have o0 := hfr.blk bo (by omega)
    have o2 := o0.cell 2
    by_cases hlt : k < east.length
    · have hki : (k : Int) < east.length := by omega
      have hck : wr.cell? ⟨gE, k, none⟩ = some (.int .i64 (east.getD k 0)) := by rw [bC.cell, hcu k hlt, if_neg (by omega)]
      have hfk := bC.frozen k
      have hwk := HEL.out k hlt
      have hcs : k < cur.size := by
        have e := hcu k hlt
        rcases Nat.lt_or_ge k cur.size with h1 | h1
        · exact h1
        · rw [Array.getElem?_eq_none h1] at e; cases e
      have lC := bC.lt
      have inv : Hid (ScaleI gE east t W2 (k + 1) (wr.setCell ⟨gE, k, none⟩ (.int .i64 (east.getD k 0 * t)))) := by
        refine Lib.hid ⟨⟨_, bC.set_ k _, fun j hj => ?_⟩, hfr.s (.inl rfl) _⟩
        rw [Array.getElem?_setIfInBounds]
        by_cases hjk : k = j
        · subst hjk
          rw [if_pos rfl, if_pos hcs, if_pos (by omega)]
        · rw [if_neg hjk, hcu j hj]
          by_cases h1 : j < k
          · rw [if_pos h1, if_pos (by omega)]
          · rw [if_neg h1, if_neg (by omega)]
      clear hcu hfr bC bo b0 b1 bE g0
      generalize east.getD k 0 = x at *
      go_wp2
      exact ⟨⟨k + 1, by omega, by simp, inv.out⟩, by simp [intOf]; omega⟩
    · obtain rfl : k = east.length := by omega
      have he2 : IntsAt wr (some ⟨gE, 0, none⟩) (east.map (· * t)) := .inr ⟨gE, 0, rfl, bC.lt, fun k hk => by
        have hk' : k < east.length := by simpa using hk
        rw [bC.cell, Nat.zero_add, hcu k hk', if_pos hk', getD_scale]⟩
      have gr : G w wr := ((G.fr g0).t hfr).toG (fun i hi h => by omega)
      have hlen : (east.map (· * t)).length = east.length := by simp
      have hC2 := fun (W : World) (hW : G wr W) => rCheck_any (north * t) cols lofts wrong (east.map (· * t)) [] (some ⟨gE, 0, none⟩) none capE 0 W (he2.below hW) (.inl rfl) (by rw [hlen]; exact hl) (by simp)
      simp only [hlen, List.length_nil] at hC2
      have s0 := hfr.blk b0 (by omega)
      have s1 := hfr.blk b1 (by omega)
      have o1 := o0.cell 1
      have o3 := o0.cell 3
      have o4 := o0.cell 4
      have o5 := o0.cell 5
      have oz := o0.cell 0
      have lM := s0.lt
      have lO := o0.lt
      clear hcu hfr bC bo b0 b1 bE g0 HE0 HEL
      cases hk2 : (checkE (north * t) cols (east.map (· * t)) lofts [] wrong == 0)
      · have hk3 : (checkE (north * t) cols (east.map (· * t)) lofts [] wrong != 0) = true := by simp [bne, hk2]
        generalize checkE (north * t) cols (east.map (· * t)) lofts [] wrong = E2 at *
        have HC2 := Lib.hid hC2
        clear hC2
        go_wp2_with (first | (go_at_call 16; refine (works_any _).mono ?_; rintro e w4 ⟨rfl, hG4⟩) | (go_at_call 14; refine (HC2.out _ (G.rf wr)).mono ?_; rintro e w3 ⟨rfl, hG3⟩))
        go_ret
        exact ⟨rfl, (gr.t hG3).t hG4⟩
      · have hk3 : checkE (north * t) cols (east.map (· * t)) lofts [] wrong = 0 := by simpa using hk2
        rw [hk3] at hC2
        obtain ⟨tn, rfl⟩ := Int.eq_ofNat_of_zero_le (show 0 ≤ t by omega)
        have hp' : isInB px 0 (cols - 1) = true ∧ p < east.length := by simp [isPlaceB, isInB] at hp ⊢; omega
        have hq' : isInB qx 0 (cols - 1) = true ∧ q < east.length := by simp [isPlaceB, isInB] at hq ⊢; omega
        have hsb := sq_bd HV.out hp'.2 hq'.2 hp'.1 hq'.1
        have hsb2 := sq_bd (checkE_ok hk3) (p := p) (q := q) (ax := px) (bx := qx) (by rw [hlen]; exact hp'.2) (by rw [hlen]; exact hq'.2) hp'.1 hq'.1
        rw [sqI_scale] at hsb2
        obtain ⟨N, hN⟩ := Int.eq_ofNat_of_zero_le hsb.1
        rw [hN] at hsb hsb2
        have eN : (tn : Int) * tn * N = ((tn * tn * N : Nat) : Int) := by simp
        rw [eN] at hsb2
        obtain ⟨d, hf1, mo1, r0, _, _, hd, t1, t2, _, _⟩ := rnd_facts N (by omega)
        obtain ⟨d2, hf2, mo2, r2, _, _, hd2, u1, u2, _, _⟩ := rnd_facts (tn * tn * N) (by omega)
        obtain ⟨z1, z2⟩ := scale_core N tn d d2 (by omega) t1 t2 u1 u2
        have z1' : (tn : Int) * d ≤ d2 := by have := Int.ofNat_le.2 z1; simpa using this
        have z2' : (d2 : Int) < tn * (d + 1) := by have := Int.ofNat_lt.2 z2; simpa using this
        have L1 := fun (W : World) (hW : G wr W) => Length_ok (north := north) (cols := cols) (lofts := lofts) (wrong := wrong) (ax := px) (bx := qx) (east := east) (svs := svs) (ea := ea) (sa := sa) (ec := ec) (sc := sc) (w := W) 0 p q (he.below (gr.t hW)) (hs.below (gr.t hW)) hl hl2 HK.out (by omega) hp hq
        have L2 := fun (W : World) (hW : G wr W) => Length_ok (north := north * tn) (cols := cols) (lofts := lofts) (wrong := wrong) (ax := px) (bx := qx) (east := east.map (· * (tn : Int))) (svs := []) (ea := some ⟨gE, 0, none⟩) (sa := none) (ec := capE) (sc := 0) (w := W) 0 p q (he2.below hW) (.inl rfl) (by rw [hlen]; exact hl) (by simp) hk3 (by omega) (by rw [hlen]; exact hp) (by rw [hlen]; exact hq)
        simp only [hN, Int.toNat_natCast, r0] at L1
        simp only [sqI_scale, hN, eN, Int.toNat_natCast, r2, hlen, List.length_nil] at L2
        have x1 : IntKind.i64.wrap (tn * (d : Int)) = tn * d := IntWalk.i64_in _ (by
          obtain ⟨y1, y2⟩ := mul_bd (A := 1000) (B := 100000000) (a := (tn : Int)) (b := d) (by omega) (by omega) (by omega) (by omega)
          omega)
        have x2 : IntKind.i64.wrap ((d : Int) + 1) = d + 1 := IntWalk.i64_in _ (by omega)
        have x3 : IntKind.i64.wrap (tn * ((d : Int) + 1)) = tn * (d + 1) := IntWalk.i64_in _ (by
          obtain ⟨y1, y2⟩ := mul_bd (A := 1000) (B := 100000001) (a := (tn : Int)) (b := d + 1) (by omega) (by omega) (by omega) (by omega)
          omega)
        have HC2 := Lib.hid hC2
        have H1 := Lib.hid L1
        have H2 := Lib.hid L2
        have hd0 : (0 : Int) ≤ d := by omega
        have hd1 : (d : Int) ≤ 100000000 := by omega
        clear hC2 L1 L2 hsb hsb2 eN t1 t2 u1 u2 z1 z2 hd hd2 r0 r2 hN hk2 hk3 hlen he2 hp' hq' h h2 h3 h4 x0
        generalize (d : Int) = D at *
        generalize (d2 : Int) = D2 at *
        go_wp2_with ((go_at_call 14; refine (HC2.out _ (G.rf wr)).mono ?_; rintro e w3 ⟨rfl, hG3⟩; clear o2 o1 o3 o4 o5 oz; replace s0 := s0.keep hG3; replace s1 := s1.keep hG3; replace o0 := o0.keep hG3; have gx := hG3; clear hG3; have m0 := s0.cell 0; have m1 := s0.cell 1; have m2 := s0.cell 2; have m3 := s0.cell 3; have m4 := s0.cell 4; have m5 := s0.cell 5; have p0 := s1.cell 5; have p1 := s1.cell 6; have q0 := s1.cell 7; have q1 := s1.cell 8; have ow0 := o0.cell 0; have ow1 := o0.cell 1; have ow2 := o0.cell 2; have ow3 := o0.cell 3; have ow4 := o0.cell 4; have ow5 := o0.cell 5))
        refine (H1.out _ gx).mono ?_
        rintro e w4 ⟨rfl, hG4⟩
        replace s0 := s0.keep hG4; replace s1 := s1.keep hG4; replace o0 := o0.keep hG4; replace gx := gx.t hG4; clear hG4 m0 m1 m2 m3 m4 m5 p0 p1 q0 q1 ow0 ow1 ow2 ow3 ow4 ow5; have m0 := s0.cell 0; have m1 := s0.cell 1; have m2 := s0.cell 2; have m3 := s0.cell 3; have m4 := s0.cell 4; have m5 := s0.cell 5; have p0 := s1.cell 5; have p1 := s1.cell 6; have q0 := s1.cell 7; have q1 := s1.cell 8; have ow0 := o0.cell 0; have ow1 := o0.cell 1; have ow2 := o0.cell 2; have ow3 := o0.cell 3; have ow4 := o0.cell 4; have ow5 := o0.cell 5
        go_wp2_with fail
        refine (H2.out _ gx).mono ?_
        rintro e w5 ⟨rfl, hG5⟩
        go_wp2_with (go_at_call 16; refine (works_any _).mono ?_; rintro e w6 ⟨rfl, hG6⟩)
        go_ret
        exact ⟨rfl, ((gr.t gx).t hG5).t hG6⟩
end Go.Proofs.Ytpjfdfddcnocpaa
