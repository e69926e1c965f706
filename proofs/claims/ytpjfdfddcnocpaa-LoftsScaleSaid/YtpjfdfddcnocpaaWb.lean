import Derived.Test.YtpjfdfddcnocpaaWa
set_option linter.unusedSimpArgs false
set_option linter.unusedVariables false
namespace Go.Proofs.Ytpjfdfddcnocpaa
open Go.RowKit
attribute [local go_sem] Oper.semAt_some
theorem ex_check : checkE 1000 (4 : Nat) exEast (2 : Nat) exSvs 1 = 0 := by decide +kernel
theorem ex_many : manyV 1000 1 4 2 exEast exSvs = 10 := by decide +kernel
theorem ex_few : fewSum 1000 4 exEast exSvs 2 = 0 := by decide +kernel
theorem ex_names : namesOf [0, 1] = [0, 1] := by
  have h : sortL [((0 : Nat) : Int), ((1 : Nat) : Int)] = [0, 1] := List.mergeSort_of_pairwise (by decide)
  unfold namesOf
  simp only [List.map_cons, List.map_nil]
  rw [h]
  decide
theorem ex_truths : truthsOf (spotsOf 1000 4 exEast exSvs) [0, 1] (1 - (fewSum 1000 4 exEast exSvs 2 : Nat)) = settleL (spotsOf 1000 4 exEast exSvs) [0, 1] (fun _ => (0, 0)) 1 := by
  rw [ex_few]
  unfold truthsOf
  rw [ex_names]
  rfl
theorem ex_lo : rnd 0 (loQ 1000 exEast 0 1 (settleL (spotsOf 1000 4 exEast exSvs) [0, 1] (fun _ => (0, 0)) 1)).toNat = 700 := by decide +kernel
theorem ex_hi : rnd 0 (hiQ 1000 exEast 0 1 (settleL (spotsOf 1000 4 exEast exSvs) [0, 1] (fun _ => (0, 0)) 1)).toNat = 2900 := by decide +kernel
theorem ex_ne : (settleL (spotsOf 1000 4 exEast exSvs) [0, 1] (fun _ => (0, 0)) 1).isEmpty = false := by decide +kernel
theorem ex_len : rnd 2 (sqI 1000 exEast 0 0 2 1).toNat = 1803 := by decide +kernel

section
variable {gE gS : Nat} {w : World} (he : IntsAt w (some ⟨gE, 0, none⟩) exEast) (hs : SvsAt w (some ⟨gS, 0, none⟩) exSvs)
include he hs
theorem ex_Many : Calls Try.prog 36 #[.agg #[.int .i64 1000, .int .i64 4, .slice (some ⟨gE, 0, none⟩) 3 3, .int .i64 2, .slice (some ⟨gS, 0, none⟩) 4 4, .int .i64 1]] w fun e w' =>
    e = .returned (.tuple #[.int .i64 10, .int .i64 0]) ∧ G w w' := by
  have h := Many_ok 1000 1 4 2 exEast exSvs (some ⟨gE, 0, none⟩) (some ⟨gS, 0, none⟩) 3 4 w he hs ex_check (by decide) (by decide +kernel)
  rw [ex_many] at h
  exact h
theorem ex_Distance : Calls Try.prog 24 #[.agg #[.int .i64 1000, .int .i64 4, .slice (some ⟨gE, 0, none⟩) 3 3, .int .i64 2, .slice (some ⟨gS, 0, none⟩) 4 4, .int .i64 1], .int .i64 0, .int .i64 1, .int .i64 0] w fun e w' =>
    e = .returned (.tuple #[.agg #[.int .i64 700, .int .i64 2900], .int .i64 0]) ∧ G w w' := by
  have h := Distance_ok 1000 1 4 2 0 1 exEast exSvs (some ⟨gE, 0, none⟩) (some ⟨gS, 0, none⟩) 3 4 0 w he hs ex_check (by omega) (by omega) (by omega) (by rw [ex_few]; omega)
    (by rw [ex_truths]; intro h; have := ex_ne; rw [h] at this; cases this)
  rw [ex_truths, ex_lo, ex_hi] at h
  exact h
theorem ex_Length : Calls Try.prog 17 #[.agg #[.int .i64 1000, .int .i64 4, .slice (some ⟨gE, 0, none⟩) 3 3, .int .i64 2, .slice (some ⟨gS, 0, none⟩) 4 4, .int .i64 1], .agg #[.int .i64 0, .int .i64 0], .agg #[.int .i64 2, .int .i64 1], .int .i64 2] w fun e w' =>
    e = .returned (.tuple #[.int .i64 1803, .int .i64 0]) ∧ G w w' := by
  have h := Length_ok (north := 1000) (cols := (4 : Nat)) (lofts := (2 : Nat)) (wrong := 1) (ax := 0) (bx := 2) (east := exEast) (svs := exSvs) (ea := some ⟨gE, 0, none⟩) (sa := some ⟨gS, 0, none⟩) (ec := 3) (sc := 4) (w := w) 2 0 1 he hs (by decide) (by decide) ex_check (by omega) (by decide) (by decide)
  have e : rnd 2 (sqI 1000 exEast 0 (0 : Nat) 2 (1 : Nat)).toNat = 1803 := ex_len
  rw [e] at h
  exact h
end

set_option maxHeartbeats 4000000 in
theorem works_any (w : World) : Calls Try.prog 16 #[] w fun e w' => e = .returned (.bool true) ∧ G w w' := by
  have q46 := eq46
  go_enter Try.func16, Try.ntmps16
  go_wp2_with (first
    | (go_at_call 52; refine (Example_any _).mono ?_; rintro e w1 ⟨gE, gS, rfl, hG1, he, hs⟩; have b1 := Blk.new w1 25 #[.int .i64 1000, .int .i64 4, .slice (some ⟨gE, 0, none⟩) 3 3, .int .i64 2, .slice (some ⟨gS, 0, none⟩) 4 4, .int .i64 1]; have hGa := (G.rf w1).a (.cells #[.int .i64 1000, .int .i64 4, .slice (some ⟨gE, 0, none⟩) 3 3, .int .i64 2, .slice (some ⟨gS, 0, none⟩) 4 4, .int .i64 1] 25))
    | (go_at_call 36; refine (ex_Many (he.below hGa) (hs.below hGa)).mono ?_; rintro e w2 ⟨rfl, hG2⟩; have b2 := b1.keep hG2; have m0 := b2.cell 0; have m1 := b2.cell 1; have m2 := b2.cell 2; have m3 := b2.cell 3; have m4 := b2.cell 4; have m5 := b2.cell 5; have hGb := hGa.t hG2; clear hG2 hGa b1)
    | (go_at_call 24; refine (ex_Distance (he.below hGb) (hs.below hGb)).mono ?_; rintro e w3 ⟨rfl, hG3⟩; have b3 := b2.keep hG3; have n0 := b3.cell 0; have n1 := b3.cell 1; have n2 := b3.cell 2; have n3 := b3.cell 3; have n4 := b3.cell 4; have n5 := b3.cell 5; have hGc := (hGb.t hG3).a (.cells #[.int .i64 700, .int .i64 2900] 46); have bs := Blk.new w3 46 #[.int .i64 700, .int .i64 2900]; have hl3 := b3.lt; clear hG3 hGb b2 m0 m1 m2 m3 m4 m5)
    | (go_at_call 17; refine (ex_Length (he.below hGc) (hs.below hGc)).mono ?_; rintro e w4 ⟨rfl, hG4⟩; have b4 := bs.keep hG4; have p0 := b4.cell 0; have p1 := b4.cell 1; have hGd := hGc.t hG4; clear hG4 hGc n0 n1 n2 n3 n4 n5))
  go_ret
  exact ⟨rfl, hG1.t hGd⟩
end Go.Proofs.Ytpjfdfddcnocpaa
