import Derived.Test.YtpjfdfddcnocpaaSf
set_option linter.unusedSimpArgs false
set_option linter.unusedVariables false
namespace Go.Proofs.Ytpjfdfddcnocpaa
open Go.RowKit
attribute [local go_sem] Oper.semAt_some

theorem rLeast_map {north wrong : Int} {cols lofts : Nat} {east : List Int} {svs : List Sv} (hk : checkE north cols east lofts svs wrong = 0) (W : World) (g cap : Nat) (hg : g < W.heap.size) (hC : CostsAt W g lofts (allP cols east.length).length (costsL north cols east svs)) :
    Calls Try.prog 72 #[.slice (some ⟨g, 0, none⟩) lofts cap] W (LeastPost W (costsL north cols east svs) lofts) := by
  have hvb := vm_bounds (checkE_ok hk)
  have hsv := (checkE_zero hk).2.1
  have hN := allP_len cols east.length
  have hN0 : 0 < (allP cols east.length).length := by
    rw [hN]; exact Nat.mul_pos (by omega) (by omega)
  have hN1 : (allP cols east.length).length ≤ 1000 := by
    rw [hN]
    have : east.length * cols ≤ 10 * 10 := Nat.mul_le_mul (by omega) (by omega)
    omega
  exact rLeast_any W g cap lofts (allP cols east.length).length (costsL north cols east svs) hg hC (by omega) hN0 hN1 (fun j => by unfold costsL; rw [List.length_map]) (fun j x hx => by
    unfold costsL at hx
    obtain ⟨p, _, rfl⟩ := List.mem_map.1 hx
    exact Nat.le_trans (cost_le _ _ _ _ _) hsv)
/-- Fewest, as the document says -/
def fewV (north cols lofts wrong : Int) (east : List Int) (svs : List Sv) : Value := if checkE north cols east lofts svs wrong = 0 then .tuple #[.int .i64 (fewSum north cols.toNat east svs lofts.toNat : Nat), .int .i64 0] else .tuple #[.int .i64 0, .int .i64 (checkE north cols east lofts svs wrong)]
section
variable (north cols lofts wrong : Int) (east : List Int) (svs : List Sv) (ea sa : Option Addr) (ec sc : Nat) (w : World)
set_option maxHeartbeats 4000000 in
theorem rFewest_any (he : IntsAt w ea east) (hs : SvsAt w sa svs) (hl : east.length ≤ 9223372036854775807) (hl2 : svs.length ≤ 9223372036854775807) :
    Calls Try.prog 38 #[.agg #[.int .i64 north, .int .i64 cols, .slice ea east.length ec, .int .i64 lofts, .slice sa svs.length sc, .int .i64 wrong]] w fun e w' => e = .returned (fewV north cols lofts wrong east svs) ∧ G w w' := by
  have hC := Lib.hid (fun (W : World) (hW : G w W) => rCheck_any north cols lofts wrong east svs ea sa ec sc W (he.below hW) (hs.below hW) hl hl2)
  have g0 : G w (w.alloc (.cells #[.int .i64 north, .int .i64 cols, .slice ea east.length ec, .int .i64 lofts, .slice sa svs.length sc, .int .i64 wrong] 25)) := (G.rf _).a _
  have b0 := Blk.new w 25 #[.int .i64 north, .int .i64 cols, .slice ea east.length ec, .int .i64 lofts, .slice sa svs.length sc, .int .i64 wrong]
  by_cases hk : checkE north cols east lofts svs wrong = 0
  · have hV : fewV north cols lofts wrong east svs = .tuple #[.int .i64 (fewSum north cols.toNat east svs lofts.toNat : Nat), .int .i64 0] := by unfold fewV; rw [if_pos hk]
    rw [hV]
    clear hV
    rw [hk] at hC
    have hvb := vm_bounds (checkE_ok hk)
    obtain ⟨cn, rfl⟩ := Int.eq_ofNat_of_zero_le (show 0 ≤ cols by omega)
    obtain ⟨ln, rfl⟩ := Int.eq_ofNat_of_zero_le (show 0 ≤ lofts by omega)
    have hco := Lib.hid (fun (W : World) (hW : G w W) => rCosts_any north wrong cn ln east svs ea sa ec sc W (he.below hW) (hs.below hW) hk)
    have hle := Lib.hid (rLeast_map hk)
    have hsf := sumM_few north cn ln east svs (by omega) (by omega)
    simp only [Int.toNat_natCast]
    rw [← hsf]
    clear hk hvb hsf
    go_enter Try.func38, Try.ntmps38
    go_wp2_with (first | (go_at_call 14; refine (hC.out _ g0).mono ?_; rintro e w1 ⟨rfl, hG1⟩; replace b0 := b0.keep hG1; replace g0 := g0.t hG1; clear hG1; have m0 := b0.cell 0; have m1 := b0.cell 1; have m2 := b0.cell 2; have m3 := b0.cell 3; have m4 := b0.cell 4; have m5 := b0.cell 5; have lM := b0.lt) | (go_at_call 71; refine (hco.out _ g0).mono ?_; rintro e w1 ⟨gC, capC, rfl, hgC, hCA, hG1⟩; have HCA := Lib.hid hCA; clear hCA m0 m1 m2 m3 m4 m5 lM; replace b0 := b0.keep hG1; replace g0 := g0.t hG1; clear hG1) | (go_at_call 72; refine (hle.out _ gC capC hgC HCA.out).mono ?_; rintro e w1 ⟨vL, rfl, _, hG1⟩; replace g0 := g0.t hG1; clear hG1))
    go_ret2
    exact ⟨rfl, g0⟩
  · have hV : fewV north cols lofts wrong east svs = .tuple #[.int .i64 0, .int .i64 (checkE north cols east lofts svs wrong)] := by unfold fewV; rw [if_neg hk]
    rw [hV]
    clear hV
    generalize checkE north cols east lofts svs wrong = E at *
    have hE : (E == 0) = false := by simp [hk]
    go_enter Try.func38, Try.ntmps38
    go_wp2_with (go_at_call 14; refine (hC.out _ g0).mono ?_; rintro e w1 ⟨rfl, hG1⟩)
    go_ret2
    exact ⟨rfl, g0.t hG1⟩
end
end Go.Proofs.Ytpjfdfddcnocpaa
