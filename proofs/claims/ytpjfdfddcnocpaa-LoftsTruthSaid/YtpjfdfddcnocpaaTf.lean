import Derived.Test.YtpjfdfddcnocpaaTm
import Derived.Deep.Cut
set_option linter.unusedSimpArgs false
set_option linter.unusedVariables false
namespace Go.Proofs.Ytpjfdfddcnocpaa
open Go.RowKit
attribute [local go_sem] Oper.semAt_some

section
variable (north cols lofts wrong f a b r rc px py qx qy : Int) (east : List Int) (svs : List Sv) (l : List (Int × Int)) (ea sa ta : Option Addr) (ec sc tc : Nat) (w : World)
abbrev TruthGoal : Prop := Calls Try.prog 4 #[.agg #[.int .i64 north, .int .i64 cols, .slice ea east.length ec, .int .i64 lofts, .slice sa svs.length sc, .int .i64 wrong], .slice ta l.length tc, .agg #[.int .i64 f, .int .i64 a, .int .i64 b, .int .i64 r, .int .i64 rc, .int .i64 px, .int .i64 py, .int .i64 qx, .int .i64 qy]] w fun e w' => e = .returned (.bool true) ∧ G w w'
variable (he : IntsAt w ea east) (hs : SvsAt w sa svs) (ht : ZAt w ta l) (hl : east.length ≤ 9223372036854775807) (hl2 : svs.length ≤ 9223372036854775807) (hl3 : l.length ≤ 9223372036854775807)
include he hs hl hl2
set_option maxRecDepth 100000 in
set_option maxHeartbeats 4000000 in
theorem truth_1 (hv : validB north cols east lofts svs wrong = false) : TruthGoal north cols lofts wrong f a b r rc px py qx qy east svs l ea sa ta ec sc tc w := by
  obtain ⟨g0, b0, b2⟩ := w2_spec w #[.int .i64 north, .int .i64 cols, .slice ea east.length ec, .int .i64 lofts, .slice sa svs.length sc, .int .i64 wrong] #[.int .i64 f, .int .i64 a, .int .i64 b, .int .i64 r, .int .i64 rc, .int .i64 px, .int .i64 py, .int .i64 qx, .int .i64 qy] 25 38
  have hV := fun (W : World) (hW : G w W) => valid_any north cols lofts wrong east svs ea sa ec sc W (he.below hW) (hs.below hW) hl hl2
  rw [hv] at hV
  have HV := Lib.hid hV
  clear hV
  unfold TruthGoal
  go_enter Try.func4, Try.ntmps4
  go_wp2_with (first | (go_at_call 19; refine (HV.out _ g0).mono ?_; rintro e w1 ⟨rfl, hG1⟩; replace b0 := b0.keep hG1; replace b2 := b2.keep hG1; replace g0 := g0.t hG1; clear hG1; have m0 := b0.cell 0; have m1 := b0.cell 1; have m2 := b0.cell 2; have m3 := b0.cell 3; have m4 := b0.cell 4; have m5 := b0.cell 5; have a0 := b2.cell 0; have a1 := b2.cell 1; have a2 := b2.cell 2; have a4 := b2.cell 4; have lM := b0.lt; have lA := b2.lt) | (go_at_call 16; refine (works_any _).mono ?_; rintro e w2 ⟨rfl, hG2⟩))
  go_ret
  exact ⟨rfl, g0.t hG2⟩
include ht hl3
set_option maxRecDepth 100000 in
set_option maxHeartbeats 4000000 in
theorem truth_2 (hv : validB north cols east lofts svs wrong = true) (hT : truthB north cols lofts wrong east svs l = false) : TruthGoal north cols lofts wrong f a b r rc px py qx qy east svs l ea sa ta ec sc tc w := by
  obtain ⟨g0, b0, b2⟩ := w2_spec w #[.int .i64 north, .int .i64 cols, .slice ea east.length ec, .int .i64 lofts, .slice sa svs.length sc, .int .i64 wrong] #[.int .i64 f, .int .i64 a, .int .i64 b, .int .i64 r, .int .i64 rc, .int .i64 px, .int .i64 py, .int .i64 qx, .int .i64 qy] 25 38
  have hV := fun (W : World) (hW : G w W) => valid_any north cols lofts wrong east svs ea sa ec sc W (he.below hW) (hs.below hW) hl hl2
  rw [hv] at hV
  have HV := Lib.hid hV
  clear hV
  have hk := validB_chk hv
  have hI := fun (W : World) (hW : G w W) => rIsTruth_any north cols lofts wrong east svs l ea sa ta ec sc tc W (he.below hW) (hs.below hW) (ht.below hW) hk hl3
  rw [hT] at hI
  have HIT := Lib.hid hI
  clear hI
  unfold TruthGoal
  go_enter Try.func4, Try.ntmps4
  go_wp2_with (first | (go_at_call 19; refine (HV.out _ g0).mono ?_; rintro e w1 ⟨rfl, hG1⟩; replace b0 := b0.keep hG1; replace b2 := b2.keep hG1; replace g0 := g0.t hG1; clear hG1; have m0 := b0.cell 0; have m1 := b0.cell 1; have m2 := b0.cell 2; have m3 := b0.cell 3; have m4 := b0.cell 4; have m5 := b0.cell 5; have a0 := b2.cell 0; have a1 := b2.cell 1; have a2 := b2.cell 2; have a4 := b2.cell 4; have lM := b0.lt; have lA := b2.lt) | (go_at_call 20; refine (HIT.out _ g0).mono ?_; rintro e w1 ⟨rfl, hG1⟩; clear m0 m1 m2 m3 m4 m5 a0 a1 a2 a4 lM lA; replace b0 := b0.keep hG1; replace b2 := b2.keep hG1; replace g0 := g0.t hG1; clear hG1; have m0 := b0.cell 0; have m1 := b0.cell 1; have m2 := b0.cell 2; have m3 := b0.cell 3; have m4 := b0.cell 4; have m5 := b0.cell 5; have a0 := b2.cell 0; have a1 := b2.cell 1; have a2 := b2.cell 2; have a4 := b2.cell 4; have lM := b0.lt; have lA := b2.lt) | (go_at_call 21; refine (lawLoft_any _ _ _ _ _ _ _ _).mono ?_; rintro e w1 ⟨rfl, hG1⟩; clear m0 m1 m2 m3 m4 m5 a0 a1 a2 a4 lM lA; replace b0 := b0.keep hG1; replace b2 := b2.keep hG1; replace g0 := g0.t hG1; clear hG1; have m0 := b0.cell 0; have m1 := b0.cell 1; have m2 := b0.cell 2; have m3 := b0.cell 3; have m4 := b0.cell 4; have m5 := b0.cell 5; have a0 := b2.cell 0; have a1 := b2.cell 1; have a2 := b2.cell 2; have a4 := b2.cell 4; have lM := b0.lt; have lA := b2.lt) | (go_at_call 16; refine (works_any _).mono ?_; rintro e w2 ⟨rfl, hG2⟩))
  go_ret
  exact ⟨rfl, g0.t hG2⟩
set_option maxRecDepth 100000 in
set_option maxHeartbeats 4000000 in
theorem truth_3 (hv : validB north cols east lofts svs wrong = true) (hT : truthB north cols lofts wrong east svs l = true) (hf : (decide (0 ≤ f) && decide (f < lofts)) = false) : TruthGoal north cols lofts wrong f a b r rc px py qx qy east svs l ea sa ta ec sc tc w := by
  obtain ⟨g0, b0, b2⟩ := w2_spec w #[.int .i64 north, .int .i64 cols, .slice ea east.length ec, .int .i64 lofts, .slice sa svs.length sc, .int .i64 wrong] #[.int .i64 f, .int .i64 a, .int .i64 b, .int .i64 r, .int .i64 rc, .int .i64 px, .int .i64 py, .int .i64 qx, .int .i64 qy] 25 38
  have hV := fun (W : World) (hW : G w W) => valid_any north cols lofts wrong east svs ea sa ec sc W (he.below hW) (hs.below hW) hl hl2
  rw [hv] at hV
  have HV := Lib.hid hV
  clear hV
  have hk := validB_chk hv
  have hI := fun (W : World) (hW : G w W) => rIsTruth_any north cols lofts wrong east svs l ea sa ta ec sc tc W (he.below hW) (hs.below hW) (ht.below hW) hk hl3
  rw [hT] at hI
  have HIT := Lib.hid hI
  clear hI
  unfold TruthGoal
  go_enter Try.func4, Try.ntmps4
  go_wp2_with (first | (go_at_call 19; refine (HV.out _ g0).mono ?_; rintro e w1 ⟨rfl, hG1⟩; replace b0 := b0.keep hG1; replace b2 := b2.keep hG1; replace g0 := g0.t hG1; clear hG1; have m0 := b0.cell 0; have m1 := b0.cell 1; have m2 := b0.cell 2; have m3 := b0.cell 3; have m4 := b0.cell 4; have m5 := b0.cell 5; have a0 := b2.cell 0; have a1 := b2.cell 1; have a2 := b2.cell 2; have a4 := b2.cell 4; have lM := b0.lt; have lA := b2.lt) | (go_at_call 20; refine (HIT.out _ g0).mono ?_; rintro e w1 ⟨rfl, hG1⟩; clear m0 m1 m2 m3 m4 m5 a0 a1 a2 a4 lM lA; replace b0 := b0.keep hG1; replace b2 := b2.keep hG1; replace g0 := g0.t hG1; clear hG1; have m0 := b0.cell 0; have m1 := b0.cell 1; have m2 := b0.cell 2; have m3 := b0.cell 3; have m4 := b0.cell 4; have m5 := b0.cell 5; have a0 := b2.cell 0; have a1 := b2.cell 1; have a2 := b2.cell 2; have a4 := b2.cell 4; have lM := b0.lt; have lA := b2.lt) | (go_at_call 21; refine (lawLoft_any _ _ _ _ _ _ _ _).mono ?_; rintro e w1 ⟨rfl, hG1⟩; clear m0 m1 m2 m3 m4 m5 a0 a1 a2 a4 lM lA; replace b0 := b0.keep hG1; replace b2 := b2.keep hG1; replace g0 := g0.t hG1; clear hG1; have m0 := b0.cell 0; have m1 := b0.cell 1; have m2 := b0.cell 2; have m3 := b0.cell 3; have m4 := b0.cell 4; have m5 := b0.cell 5; have a0 := b2.cell 0; have a1 := b2.cell 1; have a2 := b2.cell 2; have a4 := b2.cell 4; have lM := b0.lt; have lA := b2.lt) | (go_at_call 16; refine (works_any _).mono ?_; rintro e w2 ⟨rfl, hG2⟩))
  go_ret
  exact ⟨rfl, g0.t hG2⟩
set_option maxRecDepth 100000 in
set_option maxHeartbeats 4000000 in
theorem truth_4 (hv : validB north cols east lofts svs wrong = true) (hT : truthB north cols lofts wrong east svs l = true) (hf : (decide (0 ≤ f) && decide (f < lofts)) = true) (ha : (decide (0 ≤ a) && decide (a < lofts)) = false) : TruthGoal north cols lofts wrong f a b r rc px py qx qy east svs l ea sa ta ec sc tc w := by
  obtain ⟨g0, b0, b2⟩ := w2_spec w #[.int .i64 north, .int .i64 cols, .slice ea east.length ec, .int .i64 lofts, .slice sa svs.length sc, .int .i64 wrong] #[.int .i64 f, .int .i64 a, .int .i64 b, .int .i64 r, .int .i64 rc, .int .i64 px, .int .i64 py, .int .i64 qx, .int .i64 qy] 25 38
  have hV := fun (W : World) (hW : G w W) => valid_any north cols lofts wrong east svs ea sa ec sc W (he.below hW) (hs.below hW) hl hl2
  rw [hv] at hV
  have HV := Lib.hid hV
  clear hV
  have hk := validB_chk hv
  have hI := fun (W : World) (hW : G w W) => rIsTruth_any north cols lofts wrong east svs l ea sa ta ec sc tc W (he.below hW) (hs.below hW) (ht.below hW) hk hl3
  rw [hT] at hI
  have HIT := Lib.hid hI
  clear hI
  unfold TruthGoal
  go_enter Try.func4, Try.ntmps4
  go_wp2_with (first | (go_at_call 19; refine (HV.out _ g0).mono ?_; rintro e w1 ⟨rfl, hG1⟩; replace b0 := b0.keep hG1; replace b2 := b2.keep hG1; replace g0 := g0.t hG1; clear hG1; have m0 := b0.cell 0; have m1 := b0.cell 1; have m2 := b0.cell 2; have m3 := b0.cell 3; have m4 := b0.cell 4; have m5 := b0.cell 5; have a0 := b2.cell 0; have a1 := b2.cell 1; have a2 := b2.cell 2; have a4 := b2.cell 4; have lM := b0.lt; have lA := b2.lt) | (go_at_call 20; refine (HIT.out _ g0).mono ?_; rintro e w1 ⟨rfl, hG1⟩; clear m0 m1 m2 m3 m4 m5 a0 a1 a2 a4 lM lA; replace b0 := b0.keep hG1; replace b2 := b2.keep hG1; replace g0 := g0.t hG1; clear hG1; have m0 := b0.cell 0; have m1 := b0.cell 1; have m2 := b0.cell 2; have m3 := b0.cell 3; have m4 := b0.cell 4; have m5 := b0.cell 5; have a0 := b2.cell 0; have a1 := b2.cell 1; have a2 := b2.cell 2; have a4 := b2.cell 4; have lM := b0.lt; have lA := b2.lt) | (go_at_call 21; refine (lawLoft_any _ _ _ _ _ _ _ _).mono ?_; rintro e w1 ⟨rfl, hG1⟩; clear m0 m1 m2 m3 m4 m5 a0 a1 a2 a4 lM lA; replace b0 := b0.keep hG1; replace b2 := b2.keep hG1; replace g0 := g0.t hG1; clear hG1; have m0 := b0.cell 0; have m1 := b0.cell 1; have m2 := b0.cell 2; have m3 := b0.cell 3; have m4 := b0.cell 4; have m5 := b0.cell 5; have a0 := b2.cell 0; have a1 := b2.cell 1; have a2 := b2.cell 2; have a4 := b2.cell 4; have lM := b0.lt; have lA := b2.lt) | (go_at_call 16; refine (works_any _).mono ?_; rintro e w2 ⟨rfl, hG2⟩))
  go_ret
  exact ⟨rfl, g0.t hG2⟩
set_option maxRecDepth 100000 in
set_option maxHeartbeats 4000000 in
theorem truth_5 (hv : validB north cols east lofts svs wrong = true) (hT : truthB north cols lofts wrong east svs l = true) (hf : (decide (0 ≤ f) && decide (f < lofts)) = true) (ha : (decide (0 ≤ a) && decide (a < lofts)) = true) (hb : (decide (0 ≤ b) && decide (b < lofts)) = false) : TruthGoal north cols lofts wrong f a b r rc px py qx qy east svs l ea sa ta ec sc tc w := by
  obtain ⟨g0, b0, b2⟩ := w2_spec w #[.int .i64 north, .int .i64 cols, .slice ea east.length ec, .int .i64 lofts, .slice sa svs.length sc, .int .i64 wrong] #[.int .i64 f, .int .i64 a, .int .i64 b, .int .i64 r, .int .i64 rc, .int .i64 px, .int .i64 py, .int .i64 qx, .int .i64 qy] 25 38
  have hV := fun (W : World) (hW : G w W) => valid_any north cols lofts wrong east svs ea sa ec sc W (he.below hW) (hs.below hW) hl hl2
  rw [hv] at hV
  have HV := Lib.hid hV
  clear hV
  have hk := validB_chk hv
  have hI := fun (W : World) (hW : G w W) => rIsTruth_any north cols lofts wrong east svs l ea sa ta ec sc tc W (he.below hW) (hs.below hW) (ht.below hW) hk hl3
  rw [hT] at hI
  have HIT := Lib.hid hI
  clear hI
  unfold TruthGoal
  go_enter Try.func4, Try.ntmps4
  go_wp2_with (first | (go_at_call 19; refine (HV.out _ g0).mono ?_; rintro e w1 ⟨rfl, hG1⟩; replace b0 := b0.keep hG1; replace b2 := b2.keep hG1; replace g0 := g0.t hG1; clear hG1; have m0 := b0.cell 0; have m1 := b0.cell 1; have m2 := b0.cell 2; have m3 := b0.cell 3; have m4 := b0.cell 4; have m5 := b0.cell 5; have a0 := b2.cell 0; have a1 := b2.cell 1; have a2 := b2.cell 2; have a4 := b2.cell 4; have lM := b0.lt; have lA := b2.lt) | (go_at_call 20; refine (HIT.out _ g0).mono ?_; rintro e w1 ⟨rfl, hG1⟩; clear m0 m1 m2 m3 m4 m5 a0 a1 a2 a4 lM lA; replace b0 := b0.keep hG1; replace b2 := b2.keep hG1; replace g0 := g0.t hG1; clear hG1; have m0 := b0.cell 0; have m1 := b0.cell 1; have m2 := b0.cell 2; have m3 := b0.cell 3; have m4 := b0.cell 4; have m5 := b0.cell 5; have a0 := b2.cell 0; have a1 := b2.cell 1; have a2 := b2.cell 2; have a4 := b2.cell 4; have lM := b0.lt; have lA := b2.lt) | (go_at_call 21; refine (lawLoft_any _ _ _ _ _ _ _ _).mono ?_; rintro e w1 ⟨rfl, hG1⟩; clear m0 m1 m2 m3 m4 m5 a0 a1 a2 a4 lM lA; replace b0 := b0.keep hG1; replace b2 := b2.keep hG1; replace g0 := g0.t hG1; clear hG1; have m0 := b0.cell 0; have m1 := b0.cell 1; have m2 := b0.cell 2; have m3 := b0.cell 3; have m4 := b0.cell 4; have m5 := b0.cell 5; have a0 := b2.cell 0; have a1 := b2.cell 1; have a2 := b2.cell 2; have a4 := b2.cell 4; have lM := b0.lt; have lA := b2.lt) | (go_at_call 16; refine (works_any _).mono ?_; rintro e w2 ⟨rfl, hG2⟩))
  go_ret
  exact ⟨rfl, g0.t hG2⟩
set_option maxRecDepth 100000 in
set_option maxHeartbeats 4000000 in
theorem truth_6 (hv : validB north cols east lofts svs wrong = true) (hT : truthB north cols lofts wrong east svs l = true) (hf : (decide (0 ≤ f) && decide (f < lofts)) = true) (ha : (decide (0 ≤ a) && decide (a < lofts)) = true) (hb : (decide (0 ≤ b) && decide (b < lofts)) = true) (hr : rc < 0) : TruthGoal north cols lofts wrong f a b r rc px py qx qy east svs l ea sa ta ec sc tc w := by
  obtain ⟨g0, b0, b2⟩ := w2_spec w #[.int .i64 north, .int .i64 cols, .slice ea east.length ec, .int .i64 lofts, .slice sa svs.length sc, .int .i64 wrong] #[.int .i64 f, .int .i64 a, .int .i64 b, .int .i64 r, .int .i64 rc, .int .i64 px, .int .i64 py, .int .i64 qx, .int .i64 qy] 25 38
  have hV := fun (W : World) (hW : G w W) => valid_any north cols lofts wrong east svs ea sa ec sc W (he.below hW) (hs.below hW) hl hl2
  rw [hv] at hV
  have HV := Lib.hid hV
  clear hV
  have hk := validB_chk hv
  have hI := fun (W : World) (hW : G w W) => rIsTruth_any north cols lofts wrong east svs l ea sa ta ec sc tc W (he.below hW) (hs.below hW) (ht.below hW) hk hl3
  rw [hT] at hI
  have HIT := Lib.hid hI
  clear hI
  unfold TruthGoal
  go_enter Try.func4, Try.ntmps4
  go_wp2_with (first | (go_at_call 19; refine (HV.out _ g0).mono ?_; rintro e w1 ⟨rfl, hG1⟩; replace b0 := b0.keep hG1; replace b2 := b2.keep hG1; replace g0 := g0.t hG1; clear hG1; have m0 := b0.cell 0; have m1 := b0.cell 1; have m2 := b0.cell 2; have m3 := b0.cell 3; have m4 := b0.cell 4; have m5 := b0.cell 5; have a0 := b2.cell 0; have a1 := b2.cell 1; have a2 := b2.cell 2; have a4 := b2.cell 4; have lM := b0.lt; have lA := b2.lt) | (go_at_call 20; refine (HIT.out _ g0).mono ?_; rintro e w1 ⟨rfl, hG1⟩; clear m0 m1 m2 m3 m4 m5 a0 a1 a2 a4 lM lA; replace b0 := b0.keep hG1; replace b2 := b2.keep hG1; replace g0 := g0.t hG1; clear hG1; have m0 := b0.cell 0; have m1 := b0.cell 1; have m2 := b0.cell 2; have m3 := b0.cell 3; have m4 := b0.cell 4; have m5 := b0.cell 5; have a0 := b2.cell 0; have a1 := b2.cell 1; have a2 := b2.cell 2; have a4 := b2.cell 4; have lM := b0.lt; have lA := b2.lt) | (go_at_call 21; refine (lawLoft_any _ _ _ _ _ _ _ _).mono ?_; rintro e w1 ⟨rfl, hG1⟩; clear m0 m1 m2 m3 m4 m5 a0 a1 a2 a4 lM lA; replace b0 := b0.keep hG1; replace b2 := b2.keep hG1; replace g0 := g0.t hG1; clear hG1; have m0 := b0.cell 0; have m1 := b0.cell 1; have m2 := b0.cell 2; have m3 := b0.cell 3; have m4 := b0.cell 4; have m5 := b0.cell 5; have a0 := b2.cell 0; have a1 := b2.cell 1; have a2 := b2.cell 2; have a4 := b2.cell 4; have lM := b0.lt; have lA := b2.lt) | (go_at_call 16; refine (works_any _).mono ?_; rintro e w2 ⟨rfl, hG2⟩))
  go_ret
  exact ⟨rfl, g0.t hG2⟩
set_option maxRecDepth 100000 in
set_option maxHeartbeats 4000000 in
theorem truth_7 (hv : validB north cols east lofts svs wrong = true) (hT : truthB north cols lofts wrong east svs l = true) (hf : (decide (0 ≤ f) && decide (f < lofts)) = true) (ha : (decide (0 ≤ a) && decide (a < lofts)) = true) (hb : (decide (0 ≤ b) && decide (b < lofts)) = true) (hr : ¬ rc < 0) (hr2 : 100000000 < rc) : TruthGoal north cols lofts wrong f a b r rc px py qx qy east svs l ea sa ta ec sc tc w := by
  obtain ⟨g0, b0, b2⟩ := w2_spec w #[.int .i64 north, .int .i64 cols, .slice ea east.length ec, .int .i64 lofts, .slice sa svs.length sc, .int .i64 wrong] #[.int .i64 f, .int .i64 a, .int .i64 b, .int .i64 r, .int .i64 rc, .int .i64 px, .int .i64 py, .int .i64 qx, .int .i64 qy] 25 38
  have hV := fun (W : World) (hW : G w W) => valid_any north cols lofts wrong east svs ea sa ec sc W (he.below hW) (hs.below hW) hl hl2
  rw [hv] at hV
  have HV := Lib.hid hV
  clear hV
  have hk := validB_chk hv
  have hI := fun (W : World) (hW : G w W) => rIsTruth_any north cols lofts wrong east svs l ea sa ta ec sc tc W (he.below hW) (hs.below hW) (ht.below hW) hk hl3
  rw [hT] at hI
  have HIT := Lib.hid hI
  clear hI
  unfold TruthGoal
  go_enter Try.func4, Try.ntmps4
  go_wp2_with (first | (go_at_call 19; refine (HV.out _ g0).mono ?_; rintro e w1 ⟨rfl, hG1⟩; replace b0 := b0.keep hG1; replace b2 := b2.keep hG1; replace g0 := g0.t hG1; clear hG1; have m0 := b0.cell 0; have m1 := b0.cell 1; have m2 := b0.cell 2; have m3 := b0.cell 3; have m4 := b0.cell 4; have m5 := b0.cell 5; have a0 := b2.cell 0; have a1 := b2.cell 1; have a2 := b2.cell 2; have a4 := b2.cell 4; have lM := b0.lt; have lA := b2.lt) | (go_at_call 20; refine (HIT.out _ g0).mono ?_; rintro e w1 ⟨rfl, hG1⟩; clear m0 m1 m2 m3 m4 m5 a0 a1 a2 a4 lM lA; replace b0 := b0.keep hG1; replace b2 := b2.keep hG1; replace g0 := g0.t hG1; clear hG1; have m0 := b0.cell 0; have m1 := b0.cell 1; have m2 := b0.cell 2; have m3 := b0.cell 3; have m4 := b0.cell 4; have m5 := b0.cell 5; have a0 := b2.cell 0; have a1 := b2.cell 1; have a2 := b2.cell 2; have a4 := b2.cell 4; have lM := b0.lt; have lA := b2.lt) | (go_at_call 21; refine (lawLoft_any _ _ _ _ _ _ _ _).mono ?_; rintro e w1 ⟨rfl, hG1⟩; clear m0 m1 m2 m3 m4 m5 a0 a1 a2 a4 lM lA; replace b0 := b0.keep hG1; replace b2 := b2.keep hG1; replace g0 := g0.t hG1; clear hG1; have m0 := b0.cell 0; have m1 := b0.cell 1; have m2 := b0.cell 2; have m3 := b0.cell 3; have m4 := b0.cell 4; have m5 := b0.cell 5; have a0 := b2.cell 0; have a1 := b2.cell 1; have a2 := b2.cell 2; have a4 := b2.cell 4; have lM := b0.lt; have lA := b2.lt) | (go_at_call 16; refine (works_any _).mono ?_; rintro e w2 ⟨rfl, hG2⟩))
  go_ret
  exact ⟨rfl, g0.t hG2⟩
end
end Go.Proofs.Ytpjfdfddcnocpaa
