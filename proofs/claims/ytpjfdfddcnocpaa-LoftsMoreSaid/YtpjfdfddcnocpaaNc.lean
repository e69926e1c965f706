import Derived.Test.YtpjfdfddcnocpaaNb
import Derived.Test.YtpjfdfddcnocpaaHd
set_option linter.unusedSimpArgs false
set_option linter.unusedVariables false
namespace Go.Proofs.Ytpjfdfddcnocpaa
open Go.RowKit
attribute [local go_sem] Oper.semAt_some

section
variable (north cols lofts wrong f a b r rc px py qx qy : Int) (s : Sv) (east : List Int) (svs : List Sv) (ea sa : Option Addr) (ec sc : Nat) (w : World)
abbrev MoreGoal : Prop := Calls Try.prog 6 #[.agg #[.int .i64 north, .int .i64 cols, .slice ea east.length ec, .int .i64 lofts, .slice sa svs.length sc, .int .i64 wrong], .agg #[.int .i64 s.loft, .int .i64 s.kind, .int .i64 s.xl, .int .i64 s.xh, .int .i64 s.yl, .int .i64 s.yh, .int .i64 s.ax, .int .i64 s.ay, .int .i64 s.dl, .int .i64 s.dh], .agg #[.int .i64 f, .int .i64 a, .int .i64 b, .int .i64 r, .int .i64 rc, .int .i64 px, .int .i64 py, .int .i64 qx, .int .i64 qy]] w fun e w' => e = .returned (.bool true) ∧ G w w'
variable (he : IntsAt w ea east) (hs : SvsAt w sa svs) (hl : east.length ≤ 9223372036854775807) (hl2 : svs.length ≤ 9223372036854775807)
include he hs hl hl2
set_option maxRecDepth 100000 in
set_option maxHeartbeats 4000000 in
theorem more_1 (hv : validB north cols east lofts svs wrong = false) : MoreGoal north cols lofts wrong f a b r rc px py qx qy s east svs ea sa ec sc w := by
  obtain ⟨g0, b0, b1, b2⟩ := w3k_spec w #[.int .i64 north, .int .i64 cols, .slice ea east.length ec, .int .i64 lofts, .slice sa svs.length sc, .int .i64 wrong] #[.int .i64 s.loft, .int .i64 s.kind, .int .i64 s.xl, .int .i64 s.xh, .int .i64 s.yl, .int .i64 s.yh, .int .i64 s.ax, .int .i64 s.ay, .int .i64 s.dl, .int .i64 s.dh] #[.int .i64 f, .int .i64 a, .int .i64 b, .int .i64 r, .int .i64 rc, .int .i64 px, .int .i64 py, .int .i64 qx, .int .i64 qy] 25 56 38
  have hV := fun (W : World) (hW : G w W) => valid_any north cols lofts wrong east svs ea sa ec sc W (he.below hW) (hs.below hW) hl hl2
  rw [hv] at hV
  have HV := Lib.hid hV
  clear hV
  unfold MoreGoal
  go_enter Try.func6, Try.ntmps6
  go_wp2_with (first | (go_at_call 19; refine (HV.out _ g0).mono ?_; rintro e w1 ⟨rfl, hG1⟩; replace b0 := b0.keep hG1; replace b1 := b1.keep hG1; replace b2 := b2.keep hG1; replace g0 := g0.t hG1; clear hG1; have m0 := b0.cell 0; have m1 := b0.cell 1; have m2 := b0.cell 2; have m3 := b0.cell 3; have m4 := b0.cell 4; have m5 := b0.cell 5; have a1 := b2.cell 1; have a2 := b2.cell 2; have lM := b0.lt; have lS := b1.lt; have lA := b2.lt) | (go_at_call 21; refine (lawLoft_any _ _ _ _ _ _ _ _).mono ?_; rintro e w1 ⟨rfl, hG1⟩; clear m0 m1 m2 m3 m4 m5 a1 a2 lM lS lA; replace b0 := b0.keep hG1; replace b1 := b1.keep hG1; replace b2 := b2.keep hG1; replace g0 := g0.t hG1; clear hG1; have m0 := b0.cell 0; have m1 := b0.cell 1; have m2 := b0.cell 2; have m3 := b0.cell 3; have m4 := b0.cell 4; have m5 := b0.cell 5; have a1 := b2.cell 1; have a2 := b2.cell 2; have lM := b0.lt; have lS := b1.lt; have lA := b2.lt) | (go_at_call 16; refine (works_any _).mono ?_; rintro e w2 ⟨rfl, hG2⟩))
  go_ret
  exact ⟨rfl, g0.t hG2⟩
set_option maxRecDepth 100000 in
set_option maxHeartbeats 4000000 in
theorem more_2 (hv : validB north cols east lofts svs wrong = true) (h : 16 ≤ svs.length) : MoreGoal north cols lofts wrong f a b r rc px py qx qy s east svs ea sa ec sc w := by
  obtain ⟨g0, b0, b1, b2⟩ := w3k_spec w #[.int .i64 north, .int .i64 cols, .slice ea east.length ec, .int .i64 lofts, .slice sa svs.length sc, .int .i64 wrong] #[.int .i64 s.loft, .int .i64 s.kind, .int .i64 s.xl, .int .i64 s.xh, .int .i64 s.yl, .int .i64 s.yh, .int .i64 s.ax, .int .i64 s.ay, .int .i64 s.dl, .int .i64 s.dh] #[.int .i64 f, .int .i64 a, .int .i64 b, .int .i64 r, .int .i64 rc, .int .i64 px, .int .i64 py, .int .i64 qx, .int .i64 qy] 25 56 38
  have h' : (16 : Int) ≤ svs.length := by omega
  have hV := fun (W : World) (hW : G w W) => valid_any north cols lofts wrong east svs ea sa ec sc W (he.below hW) (hs.below hW) hl hl2
  rw [hv] at hV
  have HV := Lib.hid hV
  clear hV
  unfold MoreGoal
  go_enter Try.func6, Try.ntmps6
  go_wp2_with (first | (go_at_call 19; refine (HV.out _ g0).mono ?_; rintro e w1 ⟨rfl, hG1⟩; replace b0 := b0.keep hG1; replace b1 := b1.keep hG1; replace b2 := b2.keep hG1; replace g0 := g0.t hG1; clear hG1; have m0 := b0.cell 0; have m1 := b0.cell 1; have m2 := b0.cell 2; have m3 := b0.cell 3; have m4 := b0.cell 4; have m5 := b0.cell 5; have a1 := b2.cell 1; have a2 := b2.cell 2; have lM := b0.lt; have lS := b1.lt; have lA := b2.lt) | (go_at_call 21; refine (lawLoft_any _ _ _ _ _ _ _ _).mono ?_; rintro e w1 ⟨rfl, hG1⟩; clear m0 m1 m2 m3 m4 m5 a1 a2 lM lS lA; replace b0 := b0.keep hG1; replace b1 := b1.keep hG1; replace b2 := b2.keep hG1; replace g0 := g0.t hG1; clear hG1; have m0 := b0.cell 0; have m1 := b0.cell 1; have m2 := b0.cell 2; have m3 := b0.cell 3; have m4 := b0.cell 4; have m5 := b0.cell 5; have a1 := b2.cell 1; have a2 := b2.cell 2; have lM := b0.lt; have lS := b1.lt; have lA := b2.lt) | (go_at_call 16; refine (works_any _).mono ?_; rintro e w2 ⟨rfl, hG2⟩))
  go_ret
  exact ⟨rfl, g0.t hG2⟩
set_option maxRecDepth 100000 in
set_option maxHeartbeats 4000000 in
theorem more_3 (hv : validB north cols east lofts svs wrong = true) (h : ¬ 16 ≤ svs.length) (h2 : (decide (0 ≤ a) && decide (a < lofts)) = false) : MoreGoal north cols lofts wrong f a b r rc px py qx qy s east svs ea sa ec sc w := by
  obtain ⟨g0, b0, b1, b2⟩ := w3k_spec w #[.int .i64 north, .int .i64 cols, .slice ea east.length ec, .int .i64 lofts, .slice sa svs.length sc, .int .i64 wrong] #[.int .i64 s.loft, .int .i64 s.kind, .int .i64 s.xl, .int .i64 s.xh, .int .i64 s.yl, .int .i64 s.yh, .int .i64 s.ax, .int .i64 s.ay, .int .i64 s.dl, .int .i64 s.dh] #[.int .i64 f, .int .i64 a, .int .i64 b, .int .i64 r, .int .i64 rc, .int .i64 px, .int .i64 py, .int .i64 qx, .int .i64 qy] 25 56 38
  have h' : ¬ (16 : Int) ≤ svs.length := by omega
  have hV := fun (W : World) (hW : G w W) => valid_any north cols lofts wrong east svs ea sa ec sc W (he.below hW) (hs.below hW) hl hl2
  rw [hv] at hV
  have HV := Lib.hid hV
  clear hV
  unfold MoreGoal
  go_enter Try.func6, Try.ntmps6
  go_wp2_with (first | (go_at_call 19; refine (HV.out _ g0).mono ?_; rintro e w1 ⟨rfl, hG1⟩; replace b0 := b0.keep hG1; replace b1 := b1.keep hG1; replace b2 := b2.keep hG1; replace g0 := g0.t hG1; clear hG1; have m0 := b0.cell 0; have m1 := b0.cell 1; have m2 := b0.cell 2; have m3 := b0.cell 3; have m4 := b0.cell 4; have m5 := b0.cell 5; have a1 := b2.cell 1; have a2 := b2.cell 2; have lM := b0.lt; have lS := b1.lt; have lA := b2.lt) | (go_at_call 21; refine (lawLoft_any _ _ _ _ _ _ _ _).mono ?_; rintro e w1 ⟨rfl, hG1⟩; clear m0 m1 m2 m3 m4 m5 a1 a2 lM lS lA; replace b0 := b0.keep hG1; replace b1 := b1.keep hG1; replace b2 := b2.keep hG1; replace g0 := g0.t hG1; clear hG1; have m0 := b0.cell 0; have m1 := b0.cell 1; have m2 := b0.cell 2; have m3 := b0.cell 3; have m4 := b0.cell 4; have m5 := b0.cell 5; have a1 := b2.cell 1; have a2 := b2.cell 2; have lM := b0.lt; have lS := b1.lt; have lA := b2.lt) | (go_at_call 16; refine (works_any _).mono ?_; rintro e w2 ⟨rfl, hG2⟩))
  go_ret
  exact ⟨rfl, g0.t hG2⟩
set_option maxRecDepth 100000 in
set_option maxHeartbeats 4000000 in
theorem more_4 (hv : validB north cols east lofts svs wrong = true) (h : ¬ 16 ≤ svs.length) (h2 : (decide (0 ≤ a) && decide (a < lofts)) = true) (h3 : (decide (0 ≤ b) && decide (b < lofts)) = false) : MoreGoal north cols lofts wrong f a b r rc px py qx qy s east svs ea sa ec sc w := by
  obtain ⟨g0, b0, b1, b2⟩ := w3k_spec w #[.int .i64 north, .int .i64 cols, .slice ea east.length ec, .int .i64 lofts, .slice sa svs.length sc, .int .i64 wrong] #[.int .i64 s.loft, .int .i64 s.kind, .int .i64 s.xl, .int .i64 s.xh, .int .i64 s.yl, .int .i64 s.yh, .int .i64 s.ax, .int .i64 s.ay, .int .i64 s.dl, .int .i64 s.dh] #[.int .i64 f, .int .i64 a, .int .i64 b, .int .i64 r, .int .i64 rc, .int .i64 px, .int .i64 py, .int .i64 qx, .int .i64 qy] 25 56 38
  have h' : ¬ (16 : Int) ≤ svs.length := by omega
  have hV := fun (W : World) (hW : G w W) => valid_any north cols lofts wrong east svs ea sa ec sc W (he.below hW) (hs.below hW) hl hl2
  rw [hv] at hV
  have HV := Lib.hid hV
  clear hV
  unfold MoreGoal
  go_enter Try.func6, Try.ntmps6
  go_wp2_with (first | (go_at_call 19; refine (HV.out _ g0).mono ?_; rintro e w1 ⟨rfl, hG1⟩; replace b0 := b0.keep hG1; replace b1 := b1.keep hG1; replace b2 := b2.keep hG1; replace g0 := g0.t hG1; clear hG1; have m0 := b0.cell 0; have m1 := b0.cell 1; have m2 := b0.cell 2; have m3 := b0.cell 3; have m4 := b0.cell 4; have m5 := b0.cell 5; have a1 := b2.cell 1; have a2 := b2.cell 2; have lM := b0.lt; have lS := b1.lt; have lA := b2.lt) | (go_at_call 21; refine (lawLoft_any _ _ _ _ _ _ _ _).mono ?_; rintro e w1 ⟨rfl, hG1⟩; clear m0 m1 m2 m3 m4 m5 a1 a2 lM lS lA; replace b0 := b0.keep hG1; replace b1 := b1.keep hG1; replace b2 := b2.keep hG1; replace g0 := g0.t hG1; clear hG1; have m0 := b0.cell 0; have m1 := b0.cell 1; have m2 := b0.cell 2; have m3 := b0.cell 3; have m4 := b0.cell 4; have m5 := b0.cell 5; have a1 := b2.cell 1; have a2 := b2.cell 2; have lM := b0.lt; have lS := b1.lt; have lA := b2.lt) | (go_at_call 16; refine (works_any _).mono ?_; rintro e w2 ⟨rfl, hG2⟩))
  go_ret
  exact ⟨rfl, g0.t hG2⟩
end
end Go.Proofs.Ytpjfdfddcnocpaa
