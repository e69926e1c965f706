import Derived.Test.YtpjfdfddcnocpaaKd
import Derived.BigQuiet
import Derived.Deep.QuietTactic
set_option linter.unusedSimpArgs false
set_option linter.unusedVariables false
namespace Go.Proofs.Ytpjfdfddcnocpaa
open Go.RowKit
attribute [local go_sem] Oper.semAt_some

section
variable (north cols lofts wrong f a b r rc px py qx qy : Int) (east : List Int) (svs : List Sv) (ea sa : Option Addr) (ec sc : Nat) (w : World)
abbrev EndsGoal : Prop := Calls Try.prog 5 #[.agg #[.int .i64 north, .int .i64 cols, .slice ea east.length ec, .int .i64 lofts, .slice sa svs.length sc, .int .i64 wrong], .agg #[.int .i64 f, .int .i64 a, .int .i64 b, .int .i64 r, .int .i64 rc, .int .i64 px, .int .i64 py, .int .i64 qx, .int .i64 qy]] w fun e w' => e = .returned (.bool true) ∧ G w w'
set_option maxRecDepth 100000 in
set_option maxHeartbeats 4000000 in
theorem ends_1 (he : IntsAt w ea east) (hs : SvsAt w sa svs) (hl : east.length ≤ 9223372036854775807) (hl2 : svs.length ≤ 9223372036854775807) (hv : validB north cols east lofts svs wrong = false) : EndsGoal north cols lofts wrong f a b r rc px py qx qy east svs ea sa ec sc w := by
  obtain ⟨g0, b0, b1⟩ := w2_spec w #[.int .i64 north, .int .i64 cols, .slice ea east.length ec, .int .i64 lofts, .slice sa svs.length sc, .int .i64 wrong] #[.int .i64 f, .int .i64 a, .int .i64 b, .int .i64 r, .int .i64 rc, .int .i64 px, .int .i64 py, .int .i64 qx, .int .i64 qy] 25 38
  have hV := fun (W : World) (hW : G w W) => valid_any north cols lofts wrong east svs ea sa ec sc W (he.below hW) (hs.below hW) hl hl2
  rw [hv] at hV
  have HV := Lib.hid hV
  clear hV
  unfold EndsGoal
  go_enter Try.func5, Try.ntmps5
  go_wp2_with (first | (go_at_call 19; refine (HV.out _ g0).mono ?_; rintro e w1 ⟨rfl, hG1⟩; replace b0 := b0.keep hG1; replace b1 := b1.keep hG1; have m0 := b0.cell 0; have m1 := b0.cell 1; have m2 := b0.cell 2; have m3 := b0.cell 3; have m4 := b0.cell 4; have m5 := b0.cell 5; have a1 := b1.cell 1; have a2 := b1.cell 2; have a3 := b1.cell 3; have lM := b0.lt; have lN := b1.lt; replace g0 := g0.t hG1; clear hG1) | (go_at_call 16; refine (works_any _).mono ?_; rintro e w2 ⟨rfl, hG2⟩))
  go_ret
  exact ⟨rfl, g0.t hG2⟩
set_option maxRecDepth 100000 in
set_option maxHeartbeats 4000000 in
theorem ends_2 (he : IntsAt w ea east) (hs : SvsAt w sa svs) (hl : east.length ≤ 9223372036854775807) (hl2 : svs.length ≤ 9223372036854775807) (hv : validB north cols east lofts svs wrong = true) (h : (decide (0 ≤ a) && decide (a < lofts)) = false) : EndsGoal north cols lofts wrong f a b r rc px py qx qy east svs ea sa ec sc w := by
  obtain ⟨g0, b0, b1⟩ := w2_spec w #[.int .i64 north, .int .i64 cols, .slice ea east.length ec, .int .i64 lofts, .slice sa svs.length sc, .int .i64 wrong] #[.int .i64 f, .int .i64 a, .int .i64 b, .int .i64 r, .int .i64 rc, .int .i64 px, .int .i64 py, .int .i64 qx, .int .i64 qy] 25 38
  have hV := fun (W : World) (hW : G w W) => valid_any north cols lofts wrong east svs ea sa ec sc W (he.below hW) (hs.below hW) hl hl2
  rw [hv] at hV
  have HV := Lib.hid hV
  clear hV
  unfold EndsGoal
  go_enter Try.func5, Try.ntmps5
  go_wp2_with (first | (go_at_call 19; refine (HV.out _ g0).mono ?_; rintro e w1 ⟨rfl, hG1⟩; replace b0 := b0.keep hG1; replace b1 := b1.keep hG1; have m0 := b0.cell 0; have m1 := b0.cell 1; have m2 := b0.cell 2; have m3 := b0.cell 3; have m4 := b0.cell 4; have m5 := b0.cell 5; have a1 := b1.cell 1; have a2 := b1.cell 2; have a3 := b1.cell 3; have lM := b0.lt; have lN := b1.lt; replace g0 := g0.t hG1; clear hG1) | (go_at_call 21; refine (lawLoft_any _ _ _ _ _ _ _ _).mono ?_; rintro e w1 ⟨rfl, hG1⟩; clear m0 m1 m2 m3 m4 m5 a1 a2 a3 lM lN; replace b0 := b0.keep hG1; replace b1 := b1.keep hG1; have m0 := b0.cell 0; have m1 := b0.cell 1; have m2 := b0.cell 2; have m3 := b0.cell 3; have m4 := b0.cell 4; have m5 := b0.cell 5; have a1 := b1.cell 1; have a2 := b1.cell 2; have a3 := b1.cell 3; have lM := b0.lt; have lN := b1.lt; replace g0 := g0.t hG1; clear hG1) | (go_at_call 16; refine (works_any _).mono ?_; rintro e w2 ⟨rfl, hG2⟩))
  go_ret
  exact ⟨rfl, g0.t hG2⟩
set_option maxRecDepth 100000 in
set_option maxHeartbeats 4000000 in
theorem ends_3 (he : IntsAt w ea east) (hs : SvsAt w sa svs) (hl : east.length ≤ 9223372036854775807) (hl2 : svs.length ≤ 9223372036854775807) (hv : validB north cols east lofts svs wrong = true) (h : (decide (0 ≤ a) && decide (a < lofts)) = true) (h2 : (decide (0 ≤ b) && decide (b < lofts)) = false) : EndsGoal north cols lofts wrong f a b r rc px py qx qy east svs ea sa ec sc w := by
  obtain ⟨g0, b0, b1⟩ := w2_spec w #[.int .i64 north, .int .i64 cols, .slice ea east.length ec, .int .i64 lofts, .slice sa svs.length sc, .int .i64 wrong] #[.int .i64 f, .int .i64 a, .int .i64 b, .int .i64 r, .int .i64 rc, .int .i64 px, .int .i64 py, .int .i64 qx, .int .i64 qy] 25 38
  have hV := fun (W : World) (hW : G w W) => valid_any north cols lofts wrong east svs ea sa ec sc W (he.below hW) (hs.below hW) hl hl2
  rw [hv] at hV
  have HV := Lib.hid hV
  clear hV
  unfold EndsGoal
  go_enter Try.func5, Try.ntmps5
  go_wp2_with (first | (go_at_call 19; refine (HV.out _ g0).mono ?_; rintro e w1 ⟨rfl, hG1⟩; replace b0 := b0.keep hG1; replace b1 := b1.keep hG1; have m0 := b0.cell 0; have m1 := b0.cell 1; have m2 := b0.cell 2; have m3 := b0.cell 3; have m4 := b0.cell 4; have m5 := b0.cell 5; have a1 := b1.cell 1; have a2 := b1.cell 2; have a3 := b1.cell 3; have lM := b0.lt; have lN := b1.lt; replace g0 := g0.t hG1; clear hG1) | (go_at_call 21; refine (lawLoft_any _ _ _ _ _ _ _ _).mono ?_; rintro e w1 ⟨rfl, hG1⟩; clear m0 m1 m2 m3 m4 m5 a1 a2 a3 lM lN; replace b0 := b0.keep hG1; replace b1 := b1.keep hG1; have m0 := b0.cell 0; have m1 := b0.cell 1; have m2 := b0.cell 2; have m3 := b0.cell 3; have m4 := b0.cell 4; have m5 := b0.cell 5; have a1 := b1.cell 1; have a2 := b1.cell 2; have a3 := b1.cell 3; have lM := b0.lt; have lN := b1.lt; replace g0 := g0.t hG1; clear hG1) | (go_at_call 16; refine (works_any _).mono ?_; rintro e w2 ⟨rfl, hG2⟩))
  go_ret
  exact ⟨rfl, g0.t hG2⟩
set_option maxRecDepth 100000 in
set_option maxHeartbeats 4000000 in
theorem ends_4 (he : IntsAt w ea east) (hs : SvsAt w sa svs) (hl : east.length ≤ 9223372036854775807) (hl2 : svs.length ≤ 9223372036854775807) (hv : validB north cols east lofts svs wrong = true) (h : (decide (0 ≤ a) && decide (a < lofts)) = true) (h2 : (decide (0 ≤ b) && decide (b < lofts)) = true) (h3 : (a == b) = true) : EndsGoal north cols lofts wrong f a b r rc px py qx qy east svs ea sa ec sc w := by
  obtain ⟨g0, b0, b1⟩ := w2_spec w #[.int .i64 north, .int .i64 cols, .slice ea east.length ec, .int .i64 lofts, .slice sa svs.length sc, .int .i64 wrong] #[.int .i64 f, .int .i64 a, .int .i64 b, .int .i64 r, .int .i64 rc, .int .i64 px, .int .i64 py, .int .i64 qx, .int .i64 qy] 25 38
  have hV := fun (W : World) (hW : G w W) => valid_any north cols lofts wrong east svs ea sa ec sc W (he.below hW) (hs.below hW) hl hl2
  rw [hv] at hV
  have HV := Lib.hid hV
  clear hV
  unfold EndsGoal
  go_enter Try.func5, Try.ntmps5
  go_wp2_with (first | (go_at_call 19; refine (HV.out _ g0).mono ?_; rintro e w1 ⟨rfl, hG1⟩; replace b0 := b0.keep hG1; replace b1 := b1.keep hG1; have m0 := b0.cell 0; have m1 := b0.cell 1; have m2 := b0.cell 2; have m3 := b0.cell 3; have m4 := b0.cell 4; have m5 := b0.cell 5; have a1 := b1.cell 1; have a2 := b1.cell 2; have a3 := b1.cell 3; have lM := b0.lt; have lN := b1.lt; replace g0 := g0.t hG1; clear hG1) | (go_at_call 21; refine (lawLoft_any _ _ _ _ _ _ _ _).mono ?_; rintro e w1 ⟨rfl, hG1⟩; clear m0 m1 m2 m3 m4 m5 a1 a2 a3 lM lN; replace b0 := b0.keep hG1; replace b1 := b1.keep hG1; have m0 := b0.cell 0; have m1 := b0.cell 1; have m2 := b0.cell 2; have m3 := b0.cell 3; have m4 := b0.cell 4; have m5 := b0.cell 5; have a1 := b1.cell 1; have a2 := b1.cell 2; have a3 := b1.cell 3; have lM := b0.lt; have lN := b1.lt; replace g0 := g0.t hG1; clear hG1) | (go_at_call 16; refine (works_any _).mono ?_; rintro e w2 ⟨rfl, hG2⟩))
  go_ret
  exact ⟨rfl, g0.t hG2⟩
set_option maxRecDepth 100000 in
set_option maxHeartbeats 4000000 in
theorem ends_5 (he : IntsAt w ea east) (hs : SvsAt w sa svs) (hl : east.length ≤ 9223372036854775807) (hl2 : svs.length ≤ 9223372036854775807) (hv : validB north cols east lofts svs wrong = true) (h : (decide (0 ≤ a) && decide (a < lofts)) = true) (h2 : (decide (0 ≤ b) && decide (b < lofts)) = true) (h3 : (a == b) = false) (h4 : r < 0) : EndsGoal north cols lofts wrong f a b r rc px py qx qy east svs ea sa ec sc w := by
  obtain ⟨g0, b0, b1⟩ := w2_spec w #[.int .i64 north, .int .i64 cols, .slice ea east.length ec, .int .i64 lofts, .slice sa svs.length sc, .int .i64 wrong] #[.int .i64 f, .int .i64 a, .int .i64 b, .int .i64 r, .int .i64 rc, .int .i64 px, .int .i64 py, .int .i64 qx, .int .i64 qy] 25 38
  have hV := fun (W : World) (hW : G w W) => valid_any north cols lofts wrong east svs ea sa ec sc W (he.below hW) (hs.below hW) hl hl2
  rw [hv] at hV
  have HV := Lib.hid hV
  clear hV
  unfold EndsGoal
  go_enter Try.func5, Try.ntmps5
  go_wp2_with (first | (go_at_call 19; refine (HV.out _ g0).mono ?_; rintro e w1 ⟨rfl, hG1⟩; replace b0 := b0.keep hG1; replace b1 := b1.keep hG1; have m0 := b0.cell 0; have m1 := b0.cell 1; have m2 := b0.cell 2; have m3 := b0.cell 3; have m4 := b0.cell 4; have m5 := b0.cell 5; have a1 := b1.cell 1; have a2 := b1.cell 2; have a3 := b1.cell 3; have lM := b0.lt; have lN := b1.lt; replace g0 := g0.t hG1; clear hG1) | (go_at_call 21; refine (lawLoft_any _ _ _ _ _ _ _ _).mono ?_; rintro e w1 ⟨rfl, hG1⟩; clear m0 m1 m2 m3 m4 m5 a1 a2 a3 lM lN; replace b0 := b0.keep hG1; replace b1 := b1.keep hG1; have m0 := b0.cell 0; have m1 := b0.cell 1; have m2 := b0.cell 2; have m3 := b0.cell 3; have m4 := b0.cell 4; have m5 := b0.cell 5; have a1 := b1.cell 1; have a2 := b1.cell 2; have a3 := b1.cell 3; have lM := b0.lt; have lN := b1.lt; replace g0 := g0.t hG1; clear hG1) | (go_at_call 16; refine (works_any _).mono ?_; rintro e w2 ⟨rfl, hG2⟩))
  go_ret
  exact ⟨rfl, g0.t hG2⟩
set_option maxRecDepth 100000 in
set_option maxHeartbeats 4000000 in
theorem ends_6 (he : IntsAt w ea east) (hs : SvsAt w sa svs) (hl : east.length ≤ 9223372036854775807) (hl2 : svs.length ≤ 9223372036854775807) (hv : validB north cols east lofts svs wrong = true) (h : (decide (0 ≤ a) && decide (a < lofts)) = true) (h2 : (decide (0 ≤ b) && decide (b < lofts)) = true) (h3 : (a == b) = false) (h4 : ¬ r < 0) (h5 : 2 < r) : EndsGoal north cols lofts wrong f a b r rc px py qx qy east svs ea sa ec sc w := by
  obtain ⟨g0, b0, b1⟩ := w2_spec w #[.int .i64 north, .int .i64 cols, .slice ea east.length ec, .int .i64 lofts, .slice sa svs.length sc, .int .i64 wrong] #[.int .i64 f, .int .i64 a, .int .i64 b, .int .i64 r, .int .i64 rc, .int .i64 px, .int .i64 py, .int .i64 qx, .int .i64 qy] 25 38
  have hV := fun (W : World) (hW : G w W) => valid_any north cols lofts wrong east svs ea sa ec sc W (he.below hW) (hs.below hW) hl hl2
  rw [hv] at hV
  have HV := Lib.hid hV
  clear hV
  unfold EndsGoal
  go_enter Try.func5, Try.ntmps5
  go_wp2_with (first | (go_at_call 19; refine (HV.out _ g0).mono ?_; rintro e w1 ⟨rfl, hG1⟩; replace b0 := b0.keep hG1; replace b1 := b1.keep hG1; have m0 := b0.cell 0; have m1 := b0.cell 1; have m2 := b0.cell 2; have m3 := b0.cell 3; have m4 := b0.cell 4; have m5 := b0.cell 5; have a1 := b1.cell 1; have a2 := b1.cell 2; have a3 := b1.cell 3; have lM := b0.lt; have lN := b1.lt; replace g0 := g0.t hG1; clear hG1) | (go_at_call 21; refine (lawLoft_any _ _ _ _ _ _ _ _).mono ?_; rintro e w1 ⟨rfl, hG1⟩; clear m0 m1 m2 m3 m4 m5 a1 a2 a3 lM lN; replace b0 := b0.keep hG1; replace b1 := b1.keep hG1; have m0 := b0.cell 0; have m1 := b0.cell 1; have m2 := b0.cell 2; have m3 := b0.cell 3; have m4 := b0.cell 4; have m5 := b0.cell 5; have a1 := b1.cell 1; have a2 := b1.cell 2; have a3 := b1.cell 3; have lM := b0.lt; have lN := b1.lt; replace g0 := g0.t hG1; clear hG1) | (go_at_call 16; refine (works_any _).mono ?_; rintro e w2 ⟨rfl, hG2⟩))
  go_ret
  exact ⟨rfl, g0.t hG2⟩
set_option maxRecDepth 100000 in
set_option maxHeartbeats 4000000 in
theorem ends_none (cn ln an bn : Nat) (he : IntsAt w ea east) (hs : SvsAt w sa svs) (hl : east.length ≤ 9223372036854775807) (hl2 : svs.length ≤ 9223372036854775807) (hv : validB north cn east ln svs wrong = true) (hk : checkE north cn east ln svs wrong = 0) (ha : an < ln) (hb : bn < ln) (h3 : ((an : Int) == bn) = false) (h4 : 0 ≤ r ∧ r ≤ 2) (hw : wrong < fewSum north cn east svs ln) :
    EndsGoal north cn ln wrong f an bn r rc px py qx qy east svs ea sa ec sc w := by
  obtain ⟨g0, b0, b1⟩ := w2_spec w #[.int .i64 north, .int .i64 cn, .slice ea east.length ec, .int .i64 ln, .slice sa svs.length sc, .int .i64 wrong] #[.int .i64 f, .int .i64 an, .int .i64 bn, .int .i64 r, .int .i64 rc, .int .i64 px, .int .i64 py, .int .i64 qx, .int .i64 qy] 25 38
  have hV := fun (W : World) (hW : G w W) => valid_any north cn ln wrong east svs ea sa ec sc W (he.below hW) (hs.below hW) hl hl2
  rw [hv] at hV
  have HV := Lib.hid hV
  have HDi := Lib.hid (fun (W : World) (hW : G w W) => Distance_none north wrong cn ln an bn east svs ea sa ec sc W r h4 (he.below hW) (hs.below hW) hk ha hb hw)
  have HPa := Lib.hid (fun (W : World) (hW : G w W) => Places_none north wrong cn ln an east svs ea sa ec sc W (he.below hW) (hs.below hW) hk ha hw)
  have HPb := Lib.hid (fun (W : World) (hW : G w W) => Places_none north wrong cn ln bn east svs ea sa ec sc W (he.below hW) (hs.below hW) hk hb hw)
  have q1 : (decide (0 ≤ (an : Int)) && decide ((an : Int) < ln)) = true := by simp; omega
  have q2 : (decide (0 ≤ (bn : Int)) && decide ((bn : Int) < ln)) = true := by simp; omega
  obtain ⟨r1, r2⟩ := h4
  have r1' : ¬ r < 0 := by omega
  have r2' : ¬ 2 < r := by omega
  clear hV hk hw hv
  unfold EndsGoal
  go_enter Try.func5, Try.ntmps5
  go_wp2_with (first | (go_at_call 19; refine (HV.out _ g0).mono ?_; rintro e w1 ⟨rfl, hG1⟩; replace b0 := b0.keep hG1; replace b1 := b1.keep hG1; have m0 := b0.cell 0; have m1 := b0.cell 1; have m2 := b0.cell 2; have m3 := b0.cell 3; have m4 := b0.cell 4; have m5 := b0.cell 5; have a1 := b1.cell 1; have a2 := b1.cell 2; have a3 := b1.cell 3; have lM := b0.lt; have lN := b1.lt; replace g0 := g0.t hG1; clear hG1) | (go_at_call 21; refine (lawLoft_any _ _ _ _ _ _ _ _).mono ?_; rintro e w1 ⟨rfl, hG1⟩; clear m0 m1 m2 m3 m4 m5 a1 a2 a3 lM lN; replace b0 := b0.keep hG1; replace b1 := b1.keep hG1; have m0 := b0.cell 0; have m1 := b0.cell 1; have m2 := b0.cell 2; have m3 := b0.cell 3; have m4 := b0.cell 4; have m5 := b0.cell 5; have a1 := b1.cell 1; have a2 := b1.cell 2; have a3 := b1.cell 3; have lM := b0.lt; have lN := b1.lt; replace g0 := g0.t hG1; clear hG1))
  refine (HDi.out _ g0).mono ?_
  rintro e w3 ⟨rfl, hG1⟩
  clear m0 m1 m2 m3 m4 m5 a1 a2 a3 lM lN; replace b0 := b0.keep hG1; replace b1 := b1.keep hG1; have m0 := b0.cell 0; have m1 := b0.cell 1; have m2 := b0.cell 2; have m3 := b0.cell 3; have m4 := b0.cell 4; have m5 := b0.cell 5; have a1 := b1.cell 1; have a2 := b1.cell 2; have a3 := b1.cell 3; have lM := b0.lt; have lN := b1.lt; replace g0 := g0.t hG1; clear hG1
  go_wp2_with fail
  refine (HPa.out _ (g0.a _)).mono ?_
  rintro e w4 ⟨rfl, hG1⟩
  replace hG1 := ((G.rf w3).a (.cells #[.int .i64 0, .int .i64 0] 46)).t hG1
  clear m0 m1 m2 m3 m4 m5 a1 a2 a3 lM lN; replace b0 := b0.keep hG1; replace b1 := b1.keep hG1; have m0 := b0.cell 0; have m1 := b0.cell 1; have m2 := b0.cell 2; have m3 := b0.cell 3; have m4 := b0.cell 4; have m5 := b0.cell 5; have a1 := b1.cell 1; have a2 := b1.cell 2; have a3 := b1.cell 3; have lM := b0.lt; have lN := b1.lt; replace g0 := g0.t hG1; clear hG1
  go_wp2_with fail
  refine (HPb.out _ g0).mono ?_
  rintro e w5 ⟨rfl, hG1⟩
  clear m0 m1 m2 m3 m4 m5 a1 a2 a3 lM lN; replace b0 := b0.keep hG1; replace b1 := b1.keep hG1; have m0 := b0.cell 0; have m1 := b0.cell 1; have m2 := b0.cell 2; have m3 := b0.cell 3; have m4 := b0.cell 4; have m5 := b0.cell 5; have a1 := b1.cell 1; have a2 := b1.cell 2; have a3 := b1.cell 3; have lM := b0.lt; have lN := b1.lt; replace g0 := g0.t hG1; clear hG1
  go_wp2_with (go_at_call 16; refine (works_any _).mono ?_; rintro e w6 ⟨rfl, hG6⟩)
  go_ret
  exact ⟨rfl, g0.t hG6⟩
end
end Go.Proofs.Ytpjfdfddcnocpaa
