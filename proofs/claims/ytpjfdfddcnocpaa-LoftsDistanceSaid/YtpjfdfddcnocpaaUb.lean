import Derived.Test.YtpjfdfddcnocpaaUa
set_option linter.unusedSimpArgs false
set_option linter.unusedVariables false
namespace Go.Proofs.Ytpjfdfddcnocpaa
open Go.RowKit
attribute [local go_sem] Oper.semAt_some

/-- Length, as the document says -/
def lenV (north cols lofts wrong : Int) (east : List Int) (svs : List Sv) (px py qx qy rule : Int) : Value :=
  if checkE north cols east lofts svs wrong = 0 then
    if isPlaceB cols east.length px py && (isPlaceB cols east.length qx qy && isInB rule 0 2) then .tuple #[.int .i64 (rnd rule (sqI north east px py qx qy).toNat : Nat), .int .i64 0] else .tuple #[.int .i64 0, .int .i64 1]
  else .tuple #[.int .i64 0, .int .i64 (checkE north cols east lofts svs wrong)]
section
variable (north cols lofts wrong px py qx qy rule : Int) (east : List Int) (svs : List Sv) (ea sa : Option Addr) (ec sc : Nat) (w : World)
set_option maxHeartbeats 4000000 in
theorem rLength_any (he : IntsAt w ea east) (hs : SvsAt w sa svs) (hl : east.length ≤ 9223372036854775807) (hl2 : svs.length ≤ 9223372036854775807) :
    Calls Try.prog 35 #[.agg #[.int .i64 north, .int .i64 cols, .slice ea east.length ec, .int .i64 lofts, .slice sa svs.length sc, .int .i64 wrong], .agg #[.int .i64 px, .int .i64 py], .agg #[.int .i64 qx, .int .i64 qy], .int .i64 rule] w fun e w' => e = .returned (lenV north cols lofts wrong east svs px py qx qy rule) ∧ G w w' := by
  have hC := Lib.hid (fun (W : World) (hW : G w W) => rCheck_any north cols lofts wrong east svs ea sa ec sc W (he.below hW) (hs.below hW) hl hl2)
  obtain ⟨g0, b0, b1, b2⟩ := w3_spec w #[.int .i64 north, .int .i64 cols, .slice ea east.length ec, .int .i64 lofts, .slice sa svs.length sc, .int .i64 wrong] #[.int .i64 px, .int .i64 py] #[.int .i64 qx, .int .i64 qy] 25 27 27
  by_cases hk : checkE north cols east lofts svs wrong = 0
  · have HL : Hid (lenV north cols lofts wrong east svs px py qx qy rule = if isPlaceB cols east.length px py && (isPlaceB cols east.length qx qy && isInB rule 0 2) then .tuple #[.int .i64 (rnd rule (sqI north east px py qx qy).toNat : Nat), .int .i64 0] else .tuple #[.int .i64 0, .int .i64 1]) := by unfold lenV Hid; rw [if_pos hk]
    rw [hk] at hC
    have hv := checkE_ok hk
    have hvb := vm_bounds hv
    have hcb : 0 ≤ cols ∧ cols ≤ 9223372036854775807 := by omega
    have HPl := Lib.hid (fun (W : World) (x y : Int) => rPlace_any north cols lofts wrong x y ea east.length ec (.slice sa svs.length sc) W hcb hl)
    rcases and4 (isPlaceB cols east.length px py) (isPlaceB cols east.length qx qy) (isInB rule 0 2) with h1 | ⟨h1, h2⟩ | ⟨h1, h2, h3⟩ | ⟨h1, h2, h3⟩
    case inr.inr.inr =>
      have hr : 0 ≤ rule ∧ rule ≤ 2 := by simp [isInB] at h3; omega
      have hpy : 0 ≤ py ∧ 0 ≤ qy := by simp [isPlaceB, isInB] at h1 h2; omega
      obtain ⟨p, rfl⟩ := Int.eq_ofNat_of_zero_le hpy.1
      obtain ⟨q, rfl⟩ := Int.eq_ofNat_of_zero_le hpy.2
      have hp' : isInB px 0 (cols - 1) = true ∧ p < east.length := by simp [isPlaceB, isInB] at h1 ⊢; omega
      have hq' : isInB qx 0 (cols - 1) = true ∧ q < east.length := by simp [isPlaceB, isInB] at h2 ⊢; omega
      have hsb := sq_bd hv hp'.2 hq'.2 hp'.1 hq'.1
      have HS := Lib.hid (fun (W : World) (hW : G w W) => rSquare_any north cols lofts wrong px qx p q east ea ec (.slice sa svs.length sc) W (he.below hW) hv hp'.2 hq'.2 hp'.1 hq'.1)
      have HR := Lib.hid (fun (W : World) => rRounded_any (sqI north east px p qx q) rule W (by omega) hr)
      have hV : lenV north cols lofts wrong east svs px p qx q rule = .tuple #[.int .i64 (rnd rule (sqI north east px p qx q).toNat : Nat), .int .i64 0] := by rw [HL.out, h1, h2, h3]; rfl
      rw [hV]
      clear HL hV hv hvb hcb hr hpy hp' hq' hsb hk
      generalize sqI north east px p qx q = S at *
      go_enter Try.func35, Try.ntmps35
      go_wp2_with (first | (go_at_call 14; refine (hC.out _ g0).mono ?_; rintro e w1 ⟨rfl, hG1⟩; replace b0 := b0.keep hG1; replace b1 := b1.keep hG1; replace b2 := b2.keep hG1; replace g0 := g0.t hG1; clear hG1; have m0 := b0.cell 0; have m1 := b0.cell 1; have m2 := b0.cell 2; have m3 := b0.cell 3; have m4 := b0.cell 4; have m5 := b0.cell 5; have p0 := b1.cell 0; have p1 := b1.cell 1; have q0 := b2.cell 0; have q1 := b2.cell 1; have lM := b0.lt; have lP := b1.lt; have lQ := b2.lt) | (go_at_call 15; refine (HPl.out _ _ _).mono ?_; rintro e w1 ⟨rfl, hG1⟩; clear m0 m1 m2 m3 m4 m5 p0 p1 q0 q1 lM lP lQ; replace b0 := b0.keep hG1; replace b1 := b1.keep hG1; replace b2 := b2.keep hG1; replace g0 := g0.t hG1; clear hG1; have m0 := b0.cell 0; have m1 := b0.cell 1; have m2 := b0.cell 2; have m3 := b0.cell 3; have m4 := b0.cell 4; have m5 := b0.cell 5; have p0 := b1.cell 0; have p1 := b1.cell 1; have q0 := b2.cell 0; have q1 := b2.cell 1; have lM := b0.lt; have lP := b1.lt; have lQ := b2.lt) | (go_at_call 68; refine (rIsRule_any _ _).mono ?_; rintro e w1 ⟨rfl, hG1⟩; clear m0 m1 m2 m3 m4 m5 p0 p1 q0 q1 lM lP lQ; replace b0 := b0.keep hG1; replace b1 := b1.keep hG1; replace b2 := b2.keep hG1; replace g0 := g0.t hG1; clear hG1; have m0 := b0.cell 0; have m1 := b0.cell 1; have m2 := b0.cell 2; have m3 := b0.cell 3; have m4 := b0.cell 4; have m5 := b0.cell 5; have p0 := b1.cell 0; have p1 := b1.cell 1; have q0 := b2.cell 0; have q1 := b2.cell 1; have lM := b0.lt; have lP := b1.lt; have lQ := b2.lt) | (go_at_call 18; refine (HS.out _ g0).mono ?_; rintro e w1 ⟨rfl, hG1⟩; replace g0 := g0.t hG1; clear hG1) | (go_at_call 69; refine (HR.out _).mono ?_; rintro e w1 ⟨rfl, hG1⟩; replace g0 := g0.t hG1; clear hG1))
      go_ret2
      exact ⟨rfl, g0⟩
    all_goals
      have hV : lenV north cols lofts wrong east svs px py qx qy rule = .tuple #[.int .i64 0, .int .i64 1] := by rw [HL.out]; simp [*]
      rw [hV]
      clear HL hV hv hvb hcb hk
      go_enter Try.func35, Try.ntmps35
      go_wp2_with (first | (go_at_call 14; refine (hC.out _ g0).mono ?_; rintro e w1 ⟨rfl, hG1⟩; replace b0 := b0.keep hG1; replace b1 := b1.keep hG1; replace b2 := b2.keep hG1; replace g0 := g0.t hG1; clear hG1; have m0 := b0.cell 0; have m1 := b0.cell 1; have m2 := b0.cell 2; have m3 := b0.cell 3; have m4 := b0.cell 4; have m5 := b0.cell 5; have p0 := b1.cell 0; have p1 := b1.cell 1; have q0 := b2.cell 0; have q1 := b2.cell 1; have lM := b0.lt; have lP := b1.lt; have lQ := b2.lt) | (go_at_call 15; refine (HPl.out _ _ _).mono ?_; rintro e w1 ⟨rfl, hG1⟩; clear m0 m1 m2 m3 m4 m5 p0 p1 q0 q1 lM lP lQ; replace b0 := b0.keep hG1; replace b1 := b1.keep hG1; replace b2 := b2.keep hG1; replace g0 := g0.t hG1; clear hG1; have m0 := b0.cell 0; have m1 := b0.cell 1; have m2 := b0.cell 2; have m3 := b0.cell 3; have m4 := b0.cell 4; have m5 := b0.cell 5; have p0 := b1.cell 0; have p1 := b1.cell 1; have q0 := b2.cell 0; have q1 := b2.cell 1; have lM := b0.lt; have lP := b1.lt; have lQ := b2.lt) | (go_at_call 68; refine (rIsRule_any _ _).mono ?_; rintro e w1 ⟨rfl, hG1⟩; clear m0 m1 m2 m3 m4 m5 p0 p1 q0 q1 lM lP lQ; replace b0 := b0.keep hG1; replace b1 := b1.keep hG1; replace b2 := b2.keep hG1; replace g0 := g0.t hG1; clear hG1; have m0 := b0.cell 0; have m1 := b0.cell 1; have m2 := b0.cell 2; have m3 := b0.cell 3; have m4 := b0.cell 4; have m5 := b0.cell 5; have p0 := b1.cell 0; have p1 := b1.cell 1; have q0 := b2.cell 0; have q1 := b2.cell 1; have lM := b0.lt; have lP := b1.lt; have lQ := b2.lt))
      go_ret2
      exact ⟨rfl, g0⟩
  · have hV : lenV north cols lofts wrong east svs px py qx qy rule = .tuple #[.int .i64 0, .int .i64 (checkE north cols east lofts svs wrong)] := by unfold lenV; rw [if_neg hk]
    rw [hV]
    clear hV
    generalize checkE north cols east lofts svs wrong = E at *
    have hE : (E == 0) = false := by simp [hk]
    go_enter Try.func35, Try.ntmps35
    go_wp2_with (go_at_call 14; refine (hC.out _ g0).mono ?_; rintro e w1 ⟨rfl, hG1⟩)
    go_ret2
    exact ⟨rfl, g0.t hG1⟩
end
end Go.Proofs.Ytpjfdfddcnocpaa
