import Derived.Test.YtpjfdfddcnocpaaOm
set_option linter.unusedSimpArgs false
set_option linter.unusedVariables false
namespace Go.Proofs.Ytpjfdfddcnocpaa
open Go.RowKit

theorem checkE_zero {north cols lofts wrong : Int} {east : List Int} {svs : List Sv} (h : checkE north cols east lofts svs wrong = 0) : validMapB north cols east lofts wrong = true ∧ svs.length ≤ 16 ∧ svs.all (svOk cols east.length lofts) = true := by
  have hv := checkE_ok h
  unfold checkE at h
  rw [hv] at h
  simp only [Bool.true_eq_false, if_false] at h
  by_cases h1 : svs.length > 16
  · rw [if_pos h1] at h; omega
  · rw [if_neg h1] at h
    refine ⟨hv, by omega, ?_⟩
    cases h2 : svs.all (svOk cols east.length lofts)
    · rw [h2] at h; simp at h
    · rfl
theorem open_any (north wrong : Int) (cols lofts : Nat) (east : List Int) (svs : List Sv) (ea sa : Option Addr) (ec sc : Nat) (w : World) (he : IntsAt w ea east) (hs0 : SvsAt w sa svs)
    (hl2 : svs.length ≤ 16) (hv : validMapB north cols east lofts wrong = true) (hso : svs.all (svOk cols east.length lofts) = true) :
    Calls Try.prog 64 #[.agg #[.int .i64 north, .int .i64 cols, .slice ea east.length ec, .int .i64 lofts, .slice sa svs.length sc, .int .i64 wrong]] w fun e w' =>
      e = .returned (.pointer (some ⟨w.heap.size + 1, 0, none⟩)) ∧ Opened w' (w.heap.size + 1) north wrong cols lofts (.slice ea east.length ec) (.slice sa svs.length sc) (fewSum north cols east svs lofts) (spotsOf north cols east svs) ∧ G w w' := by
  refine (callsIn_wide.1 (open_in 4 (by omega) north wrong cols lofts east svs ea sa ec sc w he hs0 hl2 hv hso)).mono ?_
  rintro e w' ⟨rfl, slv, _, b, _, _, hs, hG⟩
  exact ⟨rfl, ⟨slv, b, hs⟩, hG⟩

/-- the number of the truths -/
def manyV (north wrong : Int) (cols lofts : Nat) (east : List Int) (svs : List Sv) : Nat := manyN (wrong - (fewSum north cols east svs lofts : Int)) (spotsOf north cols east svs) lofts

theorem spotsOf_len (north : Int) (cols : Nat) (east : List Int) (svs : List Sv) (j : Nat) (hc : cols ≤ 10) (hr : east.length ≤ 10) : (spotsOf north cols east svs j).length ≤ 100 := by
  simp only [spotsOf, List.length_map, allP_len]
  exact Nat.mul_le_mul hr hc

set_option maxHeartbeats 4000000 in
theorem Many_ok (north wrong : Int) (cols lofts : Nat) (east : List Int) (svs : List Sv) (ea sa : Option Addr) (ec sc : Nat) (w : World) (he : IntsAt w ea east) (hs : SvsAt w sa svs)
    (hk : checkE north cols east lofts svs wrong = 0) (hl2 : svs.length ≤ 16) (hso : svs.all (svOk cols east.length lofts) = true) :
    Calls Try.prog 36 #[.agg #[.int .i64 north, .int .i64 cols, .slice ea east.length ec, .int .i64 lofts, .slice sa svs.length sc, .int .i64 wrong]] w fun e w' =>
      e = .returned (.tuple #[.int .i64 (if manyV north wrong cols lofts east svs ≤ 1000000 then (manyV north wrong cols lofts east svs : Int) else 0), .int .i64 (if manyV north wrong cols lofts east svs ≤ 1000000 then 0 else 2)]) ∧ G w w' := by
  have hv := checkE_ok hk
  have hvb := vm_bounds hv
  have hl : east.length ≤ 9223372036854775807 := by omega
  have hC := fun (W : World) (hW : G w W) => Check_any north cols lofts wrong east svs ea sa ec sc W (he.below hW) (hs.below hW) hl (by omega)
  rw [hk] at hC
  have hO := fun (W : World) (hW : G w W) => open_any north wrong cols lofts east svs ea sa ec sc W (he.below hW) (hs.below hW) hl2 hv hso
  have hM := fun (W : World) (O : Nat) (h : Opened W O north wrong cols lofts (.slice ea east.length ec) (.slice sa svs.length sc) (fewSum north cols east svs lofts) (spotsOf north cols east svs)) =>
    many_any W h (by omega) (Nat.le_trans (fewSum_le north cols east svs lofts hl2) (by omega)) (by omega) (fun j _ => spotsOf_len north cols east svs j (by omega) (by omega))
  have hG1 : G w (w.alloc (.cells #[.int .i64 north, .int .i64 cols, .slice ea east.length ec, .int .i64 lofts, .slice sa svs.length sc, .int .i64 wrong] 25)) := (G.rf _).a _
  have hm : manyN (wrong - (fewSum north cols east svs lofts : Int)) (spotsOf north cols east svs) lofts = manyV north wrong cols lofts east svs := rfl
  simp only [hm] at hM
  have hz : w.heap.size + 1 ≤ (w.alloc (.cells #[.int .i64 north, .int .i64 cols, .slice ea east.length ec, .int .i64 lofts, .slice sa svs.length sc, .int .i64 wrong] 25)).heap.size := by simp
  have HC := Lib.hid hC
  have HO := Lib.hid hO
  have HM := Lib.hid hM
  clear hC hO hM hk hm hvb hv
  generalize manyV north wrong cols lofts east svs = N at *
  by_cases hN : N ≤ 1000000
  · rw [if_pos hN, if_pos hN]
    have hN' : ¬ (1000000 : Int) < N := by omega
    go_enter Try.func36, Try.ntmps36
    go_wp2_with (first | (go_at_call 34; refine (HC.out _ hG1).mono ?_; rintro e w' ⟨rfl, hGx⟩; have hcy := (bcellB hGx).1; have hG := G.t hG1 hGx; have hz1 : w.heap.size + 1 ≤ w'.heap.size := Nat.le_trans hz hGx.size) | (go_at_call 64; refine (HO.out _ hG).mono ?_; rintro e w' ⟨rfl, hOp, hGx⟩; have hG := G.t hG hGx) | (go_at_call 70; refine (HM.out _ _ hOp).mono ?_; rintro e w' ⟨rfl, hGx⟩; have hG := G.t hG hGx))
    go_ret2
    exact ⟨rfl, hG⟩
  · rw [if_neg hN, if_neg hN]
    have hN' : (1000000 : Int) < N := by omega
    go_enter Try.func36, Try.ntmps36
    go_wp2_with (first | (go_at_call 34; refine (HC.out _ hG1).mono ?_; rintro e w' ⟨rfl, hGx⟩; have hcy := (bcellB hGx).1; have hG := G.t hG1 hGx; have hz1 : w.heap.size + 1 ≤ w'.heap.size := Nat.le_trans hz hGx.size) | (go_at_call 64; refine (HO.out _ hG).mono ?_; rintro e w' ⟨rfl, hOp, hGx⟩; have hG := G.t hG hGx) | (go_at_call 70; refine (HM.out _ _ hOp).mono ?_; rintro e w' ⟨rfl, hGx⟩; have hG := G.t hG hGx))
    go_ret2
    exact ⟨rfl, hG⟩

set_option maxHeartbeats 4000000 in
theorem Many_err (north cols lofts wrong : Int) (east : List Int) (svs : List Sv) (ea sa : Option Addr) (ec sc : Nat) (w : World) (he : IntsAt w ea east) (hs : SvsAt w sa svs) (hl : east.length ≤ 9223372036854775807) (hl2 : svs.length ≤ 9223372036854775807)
    (hk : checkE north cols east lofts svs wrong ≠ 0) :
    Calls Try.prog 36 #[.agg #[.int .i64 north, .int .i64 cols, .slice ea east.length ec, .int .i64 lofts, .slice sa svs.length sc, .int .i64 wrong]] w fun e w' =>
      e = .returned (.tuple #[.int .i64 0, .int .i64 (checkE north cols east lofts svs wrong)]) ∧ G w w' := by
  have hC := fun (W : World) (hW : G w W) => Check_any north cols lofts wrong east svs ea sa ec sc W (he.below hW) (hs.below hW) hl hl2
  have hG1 : G w (w.alloc (.cells #[.int .i64 north, .int .i64 cols, .slice ea east.length ec, .int .i64 lofts, .slice sa svs.length sc, .int .i64 wrong] 25)) := (G.rf _).a _
  have HC := Lib.hid hC
  clear hC
  generalize checkE north cols east lofts svs wrong = E at *
  go_enter Try.func36, Try.ntmps36
  go_wp2_with (go_at_call 34; refine (HC.out _ hG1).mono ?_; rintro e w' ⟨rfl, hGx⟩; have hcy := (bcellB hGx).1; have hG := G.t hG1 hGx)
  go_ret2
  exact ⟨rfl, hG⟩
end Go.Proofs.Ytpjfdfddcnocpaa
