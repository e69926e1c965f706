import Derived.Test.YtpjfdfddcnocpaaSc
set_option linter.unusedSimpArgs false
set_option linter.unusedVariables false
namespace Go.Proofs.Ytpjfdfddcnocpaa
open Go.RowKit
attribute [local go_sem] Oper.semAt_some

theorem rIsRule_any (n : Int) (w : World) : Calls Try.prog 68 #[.int .i64 n] w fun e w' => e = .returned (.bool (isInB n 0 2)) ∧ G w w' := by
  go_enter Try.func68, Try.ntmps68
  go_wp2_with (go_at_call 51; refine (within_any _ _ _ _).mono ?_; rintro e w' ⟨rfl, hG⟩)
  go_ret
  exact ⟨rfl, hG⟩
/-- the error that checkTruth returns -/
def ctE (north cols lofts wrong : Int) (east : List Int) (svs : List Sv) (a b rule : Int) : Int :=
  if checkE north cols east lofts svs wrong = 0 then
    if isInB a 0 (lofts - 1) && (isInB b 0 (lofts - 1) && isInB rule 0 2) then (if wrong < fewSum north cols.toNat east svs lofts.toNat then 3 else 0) else 1
  else checkE north cols east lofts svs wrong
section
variable (north cols lofts wrong a b rule : Int) (east : List Int) (svs : List Sv) (ea sa : Option Addr) (ec sc : Nat) (w : World)
set_option maxHeartbeats 4000000 in
theorem rCheckTruth_any (he : IntsAt w ea east) (hs : SvsAt w sa svs) (hl : east.length ≤ 9223372036854775807) (hl2 : svs.length ≤ 9223372036854775807) :
    Calls Try.prog 74 #[.agg #[.int .i64 north, .int .i64 cols, .slice ea east.length ec, .int .i64 lofts, .slice sa svs.length sc, .int .i64 wrong], .int .i64 a, .int .i64 b, .int .i64 rule] w fun e w' =>
      e = .returned (.int .i64 (ctE north cols lofts wrong east svs a b rule)) ∧ G w w' := by
  have hC := Lib.hid (fun (W : World) (hW : G w W) => rCheck_any north cols lofts wrong east svs ea sa ec sc W (he.below hW) (hs.below hW) hl hl2)
  have g0 : G w (w.alloc (.cells #[.int .i64 north, .int .i64 cols, .slice ea east.length ec, .int .i64 lofts, .slice sa svs.length sc, .int .i64 wrong] 25)) := (G.rf _).a _
  have b0 := Blk.new w 25 #[.int .i64 north, .int .i64 cols, .slice ea east.length ec, .int .i64 lofts, .slice sa svs.length sc, .int .i64 wrong]
  by_cases hk : checkE north cols east lofts svs wrong = 0
  · rw [hk] at hC
    have hV : ctE north cols lofts wrong east svs a b rule = if isInB a 0 (lofts - 1) && (isInB b 0 (lofts - 1) && isInB rule 0 2) then (if wrong < fewSum north cols.toNat east svs lofts.toNat then 3 else 0) else 1 := by unfold ctE; rw [if_pos hk]
    have HV := Lib.hid hV
    clear hV
    have hvb := vm_bounds (checkE_ok hk)
    have x1 : IntKind.i64.wrap (lofts - 1) = lofts - 1 := IntWalk.i64_in _ (by omega)
    rcases and4 (isInB a 0 (lofts - 1)) (isInB b 0 (lofts - 1)) (isInB rule 0 2) with h1 | ⟨h1, h2⟩ | ⟨h1, h2, h3⟩ | ⟨h1, h2, h3⟩
    case inr.inr.inr =>
      obtain ⟨cn, rfl⟩ := Int.eq_ofNat_of_zero_le (show 0 ≤ cols by omega)
      obtain ⟨ln, rfl⟩ := Int.eq_ofNat_of_zero_le (show 0 ≤ lofts by omega)
      have hco := Lib.hid (fun (W : World) (hW : G w W) => rCosts_any north wrong cn ln east svs ea sa ec sc W (he.below hW) (hs.below hW) hk)
      have hsv := (checkE_zero hk).2.1
      have hN := allP_len cn east.length
      have hN0 : 0 < (allP cn east.length).length := by
        rw [hN]; exact Nat.mul_pos (by omega) (by omega)
      have hN1 : (allP cn east.length).length ≤ 1000 := by
        rw [hN]
        have : east.length * cn ≤ 10 * 10 := Nat.mul_le_mul (by omega) (by omega)
        omega
      have hle := Lib.hid (fun (W : World) (g cap : Nat) (hg : g < W.heap.size) (hC : CostsAt W g ln (allP cn east.length).length (costsL north cn east svs)) =>
        rLeast_any W g cap ln (allP cn east.length).length (costsL north cn east svs) hg hC (by omega) hN0 hN1 (fun j => by unfold costsL; rw [List.length_map]) (fun j x hx => by
          unfold costsL at hx
          obtain ⟨p, _, rfl⟩ := List.mem_map.1 hx
          exact Nat.le_trans (cost_le _ _ _ _ _) hsv))
      have hsf := sumM_few north cn ln east svs (by omega) (by omega)
      have hv3 : wrong < ((fewSum north cn east svs ln : Nat) : Int) → ctE north cn ln wrong east svs a b rule = 3 := fun hw => by
        unfold ctE
        rw [if_pos hk, h1, h2, h3]
        simp [hw]
      have hv0 : ¬ wrong < ((fewSum north cn east svs ln : Nat) : Int) → ctE north cn ln wrong east svs a b rule = 0 := fun hw => by
        unfold ctE
        rw [if_pos hk, h1, h2, h3]
        simp [hw]
      obtain ⟨F, hF⟩ : ∃ F, F = fewSum north cn east svs ln := ⟨_, rfl⟩
      rw [← hF] at hsf hv3 hv0
      have HV3 := Lib.hid hv3
      have HV0 := Lib.hid hv0
      clear hF hv3 hv0
      have HSF := Lib.hid hsf
      clear hsf hN hN0 hN1 hsv hvb hk
      by_cases hw : wrong < (F : Int)
      · have hv : ctE north cn ln wrong east svs a b rule = 3 := HV3.out hw
        have HVV := Lib.hid hv
        have hw' : (F : Int) > wrong := hw
        clear hv
        go_enter Try.func74, Try.ntmps74
        go_wp2_with (first | (go_at_call 14; refine (hC.out _ g0).mono ?_; rintro e w1 ⟨rfl, hG1⟩; replace b0 := b0.keep hG1; replace g0 := g0.t hG1; clear hG1; have m0 := b0.cell 0; have m1 := b0.cell 1; have m2 := b0.cell 2; have m3 := b0.cell 3; have m4 := b0.cell 4; have m5 := b0.cell 5; have lM := b0.lt) | (go_at_call 51; refine (within_any _ _ _ _).mono ?_; rintro e w1 ⟨rfl, hG1⟩; clear m0 m1 m2 m3 m4 m5 lM; replace b0 := b0.keep hG1; replace g0 := g0.t hG1; clear hG1; have m0 := b0.cell 0; have m1 := b0.cell 1; have m2 := b0.cell 2; have m3 := b0.cell 3; have m4 := b0.cell 4; have m5 := b0.cell 5; have lM := b0.lt) | (go_at_call 68; refine (rIsRule_any _ _).mono ?_; rintro e w1 ⟨rfl, hG1⟩; clear m0 m1 m2 m3 m4 m5 lM; replace b0 := b0.keep hG1; replace g0 := g0.t hG1; clear hG1; have m0 := b0.cell 0; have m1 := b0.cell 1; have m2 := b0.cell 2; have m3 := b0.cell 3; have m4 := b0.cell 4; have m5 := b0.cell 5; have lM := b0.lt) | (go_at_call 71; refine (hco.out _ g0).mono ?_; rintro e w1 ⟨gC, capC, rfl, hgC, hCA, hG1⟩; have HCA := Lib.hid hCA; clear hCA m0 m1 m2 m3 m4 m5 lM; replace b0 := b0.keep hG1; replace g0 := g0.t hG1; clear hG1) | (go_at_call 72; refine (hle.out _ gC capC hgC HCA.out).mono ?_; rintro e w1 ⟨vL, rfl, _, hG1⟩; rw [HSF.out]; replace b0 := b0.keep hG1; replace g0 := g0.t hG1; clear hG1; have m5 := b0.cell 5; have lM := b0.lt))
        go_ret
        exact ⟨by rw [HVV.out]; rfl, g0⟩
      · have hv : ctE north cn ln wrong east svs a b rule = 0 := HV0.out hw
        have HVV := Lib.hid hv
        have hw' : ¬ (F : Int) > wrong := hw
        clear hv
        go_enter Try.func74, Try.ntmps74
        go_wp2_with (first | (go_at_call 14; refine (hC.out _ g0).mono ?_; rintro e w1 ⟨rfl, hG1⟩; replace b0 := b0.keep hG1; replace g0 := g0.t hG1; clear hG1; have m0 := b0.cell 0; have m1 := b0.cell 1; have m2 := b0.cell 2; have m3 := b0.cell 3; have m4 := b0.cell 4; have m5 := b0.cell 5; have lM := b0.lt) | (go_at_call 51; refine (within_any _ _ _ _).mono ?_; rintro e w1 ⟨rfl, hG1⟩; clear m0 m1 m2 m3 m4 m5 lM; replace b0 := b0.keep hG1; replace g0 := g0.t hG1; clear hG1; have m0 := b0.cell 0; have m1 := b0.cell 1; have m2 := b0.cell 2; have m3 := b0.cell 3; have m4 := b0.cell 4; have m5 := b0.cell 5; have lM := b0.lt) | (go_at_call 68; refine (rIsRule_any _ _).mono ?_; rintro e w1 ⟨rfl, hG1⟩; clear m0 m1 m2 m3 m4 m5 lM; replace b0 := b0.keep hG1; replace g0 := g0.t hG1; clear hG1; have m0 := b0.cell 0; have m1 := b0.cell 1; have m2 := b0.cell 2; have m3 := b0.cell 3; have m4 := b0.cell 4; have m5 := b0.cell 5; have lM := b0.lt) | (go_at_call 71; refine (hco.out _ g0).mono ?_; rintro e w1 ⟨gC, capC, rfl, hgC, hCA, hG1⟩; have HCA := Lib.hid hCA; clear hCA m0 m1 m2 m3 m4 m5 lM; replace b0 := b0.keep hG1; replace g0 := g0.t hG1; clear hG1) | (go_at_call 72; refine (hle.out _ gC capC hgC HCA.out).mono ?_; rintro e w1 ⟨vL, rfl, _, hG1⟩; rw [HSF.out]; replace b0 := b0.keep hG1; replace g0 := g0.t hG1; clear hG1; have m5 := b0.cell 5; have lM := b0.lt))
        go_ret
        exact ⟨by rw [HVV.out]; rfl, g0⟩
    all_goals
      clear hvb hk
      go_enter Try.func74, Try.ntmps74
      go_wp2_with (first | (go_at_call 14; refine (hC.out _ g0).mono ?_; rintro e w1 ⟨rfl, hG1⟩; replace b0 := b0.keep hG1; replace g0 := g0.t hG1; clear hG1; have m3 := b0.cell 3; have lM := b0.lt) | (go_at_call 51; refine (within_any _ _ _ _).mono ?_; rintro e w1 ⟨rfl, hG1⟩; clear m3 lM; replace b0 := b0.keep hG1; replace g0 := g0.t hG1; clear hG1; have m3 := b0.cell 3; have lM := b0.lt) | (go_at_call 68; refine (rIsRule_any _ _).mono ?_; rintro e w1 ⟨rfl, hG1⟩; clear m3 lM; replace b0 := b0.keep hG1; replace g0 := g0.t hG1; clear hG1; have m3 := b0.cell 3; have lM := b0.lt))
      go_ret
      exact ⟨by rw [HV.out]; simp [*], g0⟩
  · have hV : ctE north cols lofts wrong east svs a b rule = checkE north cols east lofts svs wrong := by unfold ctE; rw [if_neg hk]
    rw [hV]
    clear hV
    generalize checkE north cols east lofts svs wrong = E at *
    have hE : (E == 0) = false := by simp [hk]
    go_enter Try.func74, Try.ntmps74
    go_wp2_with (go_at_call 14; refine (hC.out _ g0).mono ?_; rintro e w1 ⟨rfl, hG1⟩)
    go_ret
    exact ⟨rfl, g0.t hG1⟩
end
end Go.Proofs.Ytpjfdfddcnocpaa
