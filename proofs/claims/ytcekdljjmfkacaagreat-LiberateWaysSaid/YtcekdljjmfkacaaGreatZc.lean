import Derived.Test.YtcekdljjmfkacaaGreatZb
import Derived.Test.YtcekdljjmfkacaaGreatOa
set_option linter.unusedSimpArgs false
set_option linter.unusedVariables false
namespace Go.Proofs.YtcekdljjmfkacaaGreat
open Go.RowKit
attribute [local go_sem] Oper.semAt_some
/-- a front is valid -/
def frontB (cols : Int) (el : Nat) (hours : Int) (d : Nat → Int) : Bool := spanB (d 0) (d 1) 0 (hours - 1) && (spanB (d 2) (d 3) 0 (cols - 1) && (spanB (d 4) (d 5) 0 ((el : Int) - 1) && !anyU (fun i => !spanB (d (6 + i * 2 + 0)) (d (6 + i * 2 + 1)) 0 999) 3))
section
variable (north cols lofts wrong bx bY sl sh lw lg lh hours dark : Int) (ea : Option Addr) (el ec : Nat) (sv hv fv : Value)
set_option maxRecDepth 100000 in
set_option maxHeartbeats 16000000 in
theorem validFront_all (d : Nat → Int) (W : World) (hc : 1 ≤ cols ∧ cols ≤ 9223372036854775807) (hel : el ≤ 9223372036854775807) (hh : 1 ≤ hours ∧ hours ≤ 12) :
    Calls Tryz.prog 34 #[.agg #[.int .i64 north, .int .i64 cols, .slice ea el ec, .int .i64 lofts, sv, .int .i64 wrong, .int .i64 bx, .int .i64 bY, hv, .int .i64 sl, .int .i64 sh, fv, .int .i64 lw, .int .i64 lg, .int .i64 lh, .int .i64 hours, .int .i64 dark], .agg #[.int .i64 (d 0), .int .i64 (d 1), .int .i64 (d 2), .int .i64 (d 3), .int .i64 (d 4), .int .i64 (d 5), .int .i64 (d 6), .int .i64 (d 7), .int .i64 (d 8), .int .i64 (d 9), .int .i64 (d 10), .int .i64 (d 11)]] W fun e w' => e = .returned (.bool (frontB cols el hours d)) ∧ G W w' := by
  obtain ⟨g0, b0, b1⟩ := w2_spec W #[.int .i64 north, .int .i64 cols, .slice ea el ec, .int .i64 lofts, sv, .int .i64 wrong, .int .i64 bx, .int .i64 bY, hv, .int .i64 sl, .int .i64 sh, fv, .int .i64 lw, .int .i64 lg, .int .i64 lh, .int .i64 hours, .int .i64 dark] #[.int .i64 (d 0), .int .i64 (d 1), .int .i64 (d 2), .int .i64 (d 3), .int .i64 (d 4), .int .i64 (d 5), .int .i64 (d 6), .int .i64 (d 7), .int .i64 (d 8), .int .i64 (d 9), .int .i64 (d 10), .int .i64 (d 11)] 35 71
  have x1 : IntKind.i64.wrap (hours - 1) = hours - 1 := IntWalk.i64_in _ (by omega)
  have x2 : IntKind.i64.wrap (cols - 1) = cols - 1 := IntWalk.i64_in _ (by omega)
  have x3 : IntKind.i64.wrap ((el : Int) - 1) = (el : Int) - 1 := IntWalk.i64_in _ (by omega)
  have S1 := Lib.hid (fun (W : World) => lSpan_any (d 0) (d 1) 0 (hours - 1) W)
  have S2 := Lib.hid (fun (W : World) => lSpan_any (d 2) (d 3) 0 (cols - 1) W)
  have S3 := Lib.hid (fun (W : World) => lSpan_any (d 4) (d 5) 0 ((el : Int) - 1) W)
  have hct := fun (W : World) (g : Nat) (hg : Blk W g 30 #[.int .i64 (d 6), .int .i64 (d 7), .int .i64 (d 8), .int .i64 (d 9), .int .i64 (d 10), .int .i64 (d 11)]) => CtSpan_any 73 (enters_of Tryz.func73 (by kernel_rfl) rfl) #[] W (some ⟨g, 0, none⟩) 3 3 (fun i r => d (6 + i * 2 + r)) (fun i => !spanB (d (6 + i * 2 + 0)) (d (6 + i * 2 + 1)) 0 999) (by omega)
    (.inr ⟨g, 0, rfl, hg.lt, fun i hi r hr => by
      rw [hg.cell]
      match i, hi, r, hr with
      | 0, _, 0, _ => rfl
      | 0, _, 1, _ => rfl
      | 1, _, 0, _ => rfl
      | 1, _, 1, _ => rfl
      | 2, _, 0, _ => rfl
      | 2, _, 1, _ => rfl⟩)
    (fun W' hW i hi => lWx_any (d (6 + i * 2 + 0)) (d (6 + i * 2 + 1)) W')
  have HCT := Lib.hid hct
  clear hct
  have m0 := b0.cell 0; have m1 := b0.cell 1; have m2 := b0.cell 2; have m3 := b0.cell 3; have m4 := b0.cell 4; have m5 := b0.cell 5; have m6 := b0.cell 6; have m7 := b0.cell 7; have m8 := b0.cell 8; have m9 := b0.cell 9; have m10 := b0.cell 10; have m11 := b0.cell 11; have m12 := b0.cell 12; have m13 := b0.cell 13; have m14 := b0.cell 14; have m15 := b0.cell 15; have m16 := b0.cell 16; have lM := b0.lt; have f0 := b1.cell 0; have f1 := b1.cell 1; have f2 := b1.cell 2; have f3 := b1.cell 3; have f4 := b1.cell 4; have f5 := b1.cell 5; have f6 := b1.cell 6; have f7 := b1.cell 7; have f8 := b1.cell 8; have f9 := b1.cell 9; have f10 := b1.cell 10; have f11 := b1.cell 11; have lF := b1.lt
  go_enter Tryz.func34, Tryz.ntmps34
  cases e1 : spanB (d 0) (d 1) 0 (hours - 1)
  · rw [e1] at S1
    have HR : Hid (frontB cols el hours d = false) := by unfold Hid frontB; simp [e1]
    clear e1
    go_wp2_with (first | (go_at_call 69; refine (S1.out _).mono ?_; rintro e w1 ⟨rfl, hG1⟩; clear S1; clear m0 m1 m2 m3 m4 m5 m6 m7 m8 m9 m10 m11 m12 m13 m14 m15 m16 lM f0 f1 f2 f3 f4 f5 f6 f7 f8 f9 f10 f11 lF; replace b0 := b0.keep hG1; replace b1 := b1.keep hG1; replace g0 := g0.t hG1; clear hG1; have m0 := b0.cell 0; have m1 := b0.cell 1; have m2 := b0.cell 2; have m3 := b0.cell 3; have m4 := b0.cell 4; have m5 := b0.cell 5; have m6 := b0.cell 6; have m7 := b0.cell 7; have m8 := b0.cell 8; have m9 := b0.cell 9; have m10 := b0.cell 10; have m11 := b0.cell 11; have m12 := b0.cell 12; have m13 := b0.cell 13; have m14 := b0.cell 14; have m15 := b0.cell 15; have m16 := b0.cell 16; have lM := b0.lt; have f0 := b1.cell 0; have f1 := b1.cell 1; have f2 := b1.cell 2; have f3 := b1.cell 3; have f4 := b1.cell 4; have f5 := b1.cell 5; have f6 := b1.cell 6; have f7 := b1.cell 7; have f8 := b1.cell 8; have f9 := b1.cell 9; have f10 := b1.cell 10; have f11 := b1.cell 11; have lF := b1.lt))
    go_ret
    exact ⟨by rw [HR.out]; first | done | rfl, g0⟩
  rw [e1] at S1
  cases e2 : spanB (d 2) (d 3) 0 (cols - 1)
  · rw [e2] at S2
    have HR : Hid (frontB cols el hours d = false) := by unfold Hid frontB; simp [e1, e2]
    clear e1 e2
    go_wp2_with (first | (go_at_call 69; refine (S1.out _).mono ?_; rintro e w1 ⟨rfl, hG1⟩; clear S1; clear m0 m1 m2 m3 m4 m5 m6 m7 m8 m9 m10 m11 m12 m13 m14 m15 m16 lM f0 f1 f2 f3 f4 f5 f6 f7 f8 f9 f10 f11 lF; replace b0 := b0.keep hG1; replace b1 := b1.keep hG1; replace g0 := g0.t hG1; clear hG1; have m0 := b0.cell 0; have m1 := b0.cell 1; have m2 := b0.cell 2; have m3 := b0.cell 3; have m4 := b0.cell 4; have m5 := b0.cell 5; have m6 := b0.cell 6; have m7 := b0.cell 7; have m8 := b0.cell 8; have m9 := b0.cell 9; have m10 := b0.cell 10; have m11 := b0.cell 11; have m12 := b0.cell 12; have m13 := b0.cell 13; have m14 := b0.cell 14; have m15 := b0.cell 15; have m16 := b0.cell 16; have lM := b0.lt; have f0 := b1.cell 0; have f1 := b1.cell 1; have f2 := b1.cell 2; have f3 := b1.cell 3; have f4 := b1.cell 4; have f5 := b1.cell 5; have f6 := b1.cell 6; have f7 := b1.cell 7; have f8 := b1.cell 8; have f9 := b1.cell 9; have f10 := b1.cell 10; have f11 := b1.cell 11; have lF := b1.lt) | (go_at_call 69; refine (S2.out _).mono ?_; rintro e w1 ⟨rfl, hG1⟩; clear S2; clear m0 m1 m2 m3 m4 m5 m6 m7 m8 m9 m10 m11 m12 m13 m14 m15 m16 lM f0 f1 f2 f3 f4 f5 f6 f7 f8 f9 f10 f11 lF; replace b0 := b0.keep hG1; replace b1 := b1.keep hG1; replace g0 := g0.t hG1; clear hG1; have m0 := b0.cell 0; have m1 := b0.cell 1; have m2 := b0.cell 2; have m3 := b0.cell 3; have m4 := b0.cell 4; have m5 := b0.cell 5; have m6 := b0.cell 6; have m7 := b0.cell 7; have m8 := b0.cell 8; have m9 := b0.cell 9; have m10 := b0.cell 10; have m11 := b0.cell 11; have m12 := b0.cell 12; have m13 := b0.cell 13; have m14 := b0.cell 14; have m15 := b0.cell 15; have m16 := b0.cell 16; have lM := b0.lt; have f0 := b1.cell 0; have f1 := b1.cell 1; have f2 := b1.cell 2; have f3 := b1.cell 3; have f4 := b1.cell 4; have f5 := b1.cell 5; have f6 := b1.cell 6; have f7 := b1.cell 7; have f8 := b1.cell 8; have f9 := b1.cell 9; have f10 := b1.cell 10; have f11 := b1.cell 11; have lF := b1.lt))
    go_ret
    exact ⟨by rw [HR.out]; first | done | rfl, g0⟩
  rw [e2] at S2
  cases e3 : spanB (d 4) (d 5) 0 ((el : Int) - 1)
  · rw [e3] at S3
    have HR : Hid (frontB cols el hours d = false) := by unfold Hid frontB; simp [e1, e2, e3]
    clear e1 e2 e3
    go_wp2_with (first | (go_at_call 69; refine (S1.out _).mono ?_; rintro e w1 ⟨rfl, hG1⟩; clear S1; clear m0 m1 m2 m3 m4 m5 m6 m7 m8 m9 m10 m11 m12 m13 m14 m15 m16 lM f0 f1 f2 f3 f4 f5 f6 f7 f8 f9 f10 f11 lF; replace b0 := b0.keep hG1; replace b1 := b1.keep hG1; replace g0 := g0.t hG1; clear hG1; have m0 := b0.cell 0; have m1 := b0.cell 1; have m2 := b0.cell 2; have m3 := b0.cell 3; have m4 := b0.cell 4; have m5 := b0.cell 5; have m6 := b0.cell 6; have m7 := b0.cell 7; have m8 := b0.cell 8; have m9 := b0.cell 9; have m10 := b0.cell 10; have m11 := b0.cell 11; have m12 := b0.cell 12; have m13 := b0.cell 13; have m14 := b0.cell 14; have m15 := b0.cell 15; have m16 := b0.cell 16; have lM := b0.lt; have f0 := b1.cell 0; have f1 := b1.cell 1; have f2 := b1.cell 2; have f3 := b1.cell 3; have f4 := b1.cell 4; have f5 := b1.cell 5; have f6 := b1.cell 6; have f7 := b1.cell 7; have f8 := b1.cell 8; have f9 := b1.cell 9; have f10 := b1.cell 10; have f11 := b1.cell 11; have lF := b1.lt) | (go_at_call 69; refine (S2.out _).mono ?_; rintro e w1 ⟨rfl, hG1⟩; clear S2; clear m0 m1 m2 m3 m4 m5 m6 m7 m8 m9 m10 m11 m12 m13 m14 m15 m16 lM f0 f1 f2 f3 f4 f5 f6 f7 f8 f9 f10 f11 lF; replace b0 := b0.keep hG1; replace b1 := b1.keep hG1; replace g0 := g0.t hG1; clear hG1; have m0 := b0.cell 0; have m1 := b0.cell 1; have m2 := b0.cell 2; have m3 := b0.cell 3; have m4 := b0.cell 4; have m5 := b0.cell 5; have m6 := b0.cell 6; have m7 := b0.cell 7; have m8 := b0.cell 8; have m9 := b0.cell 9; have m10 := b0.cell 10; have m11 := b0.cell 11; have m12 := b0.cell 12; have m13 := b0.cell 13; have m14 := b0.cell 14; have m15 := b0.cell 15; have m16 := b0.cell 16; have lM := b0.lt; have f0 := b1.cell 0; have f1 := b1.cell 1; have f2 := b1.cell 2; have f3 := b1.cell 3; have f4 := b1.cell 4; have f5 := b1.cell 5; have f6 := b1.cell 6; have f7 := b1.cell 7; have f8 := b1.cell 8; have f9 := b1.cell 9; have f10 := b1.cell 10; have f11 := b1.cell 11; have lF := b1.lt) | (go_at_call 69; refine (S3.out _).mono ?_; rintro e w1 ⟨rfl, hG1⟩; clear S3; clear m0 m1 m2 m3 m4 m5 m6 m7 m8 m9 m10 m11 m12 m13 m14 m15 m16 lM f0 f1 f2 f3 f4 f5 f6 f7 f8 f9 f10 f11 lF; replace b0 := b0.keep hG1; replace b1 := b1.keep hG1; replace g0 := g0.t hG1; clear hG1; have m0 := b0.cell 0; have m1 := b0.cell 1; have m2 := b0.cell 2; have m3 := b0.cell 3; have m4 := b0.cell 4; have m5 := b0.cell 5; have m6 := b0.cell 6; have m7 := b0.cell 7; have m8 := b0.cell 8; have m9 := b0.cell 9; have m10 := b0.cell 10; have m11 := b0.cell 11; have m12 := b0.cell 12; have m13 := b0.cell 13; have m14 := b0.cell 14; have m15 := b0.cell 15; have m16 := b0.cell 16; have lM := b0.lt; have f0 := b1.cell 0; have f1 := b1.cell 1; have f2 := b1.cell 2; have f3 := b1.cell 3; have f4 := b1.cell 4; have f5 := b1.cell 5; have f6 := b1.cell 6; have f7 := b1.cell 7; have f8 := b1.cell 8; have f9 := b1.cell 9; have f10 := b1.cell 10; have f11 := b1.cell 11; have lF := b1.lt))
    go_ret
    exact ⟨by rw [HR.out]; first | done | rfl, g0⟩
  rw [e3] at S3
  obtain ⟨b4, hb4⟩ : ∃ b4, b4 = anyU (fun i => !spanB (d (6 + i * 2 + 0)) (d (6 + i * 2 + 1)) 0 999) 3 := ⟨_, rfl⟩
  rw [← hb4] at HCT
  have HR : Hid (frontB cols el hours d = !b4) := by unfold Hid frontB; rw [e1, e2, e3, hb4]; rfl
  clear e1 e2 e3 hb4
  go_wp2_with (first | (go_at_call 69; refine (S1.out _).mono ?_; rintro e w1 ⟨rfl, hG1⟩; clear S1; clear m0 m1 m2 m3 m4 m5 m6 m7 m8 m9 m10 m11 m12 m13 m14 m15 m16 lM f0 f1 f2 f3 f4 f5 f6 f7 f8 f9 f10 f11 lF; replace b0 := b0.keep hG1; replace b1 := b1.keep hG1; replace g0 := g0.t hG1; clear hG1; have m0 := b0.cell 0; have m1 := b0.cell 1; have m2 := b0.cell 2; have m3 := b0.cell 3; have m4 := b0.cell 4; have m5 := b0.cell 5; have m6 := b0.cell 6; have m7 := b0.cell 7; have m8 := b0.cell 8; have m9 := b0.cell 9; have m10 := b0.cell 10; have m11 := b0.cell 11; have m12 := b0.cell 12; have m13 := b0.cell 13; have m14 := b0.cell 14; have m15 := b0.cell 15; have m16 := b0.cell 16; have lM := b0.lt; have f0 := b1.cell 0; have f1 := b1.cell 1; have f2 := b1.cell 2; have f3 := b1.cell 3; have f4 := b1.cell 4; have f5 := b1.cell 5; have f6 := b1.cell 6; have f7 := b1.cell 7; have f8 := b1.cell 8; have f9 := b1.cell 9; have f10 := b1.cell 10; have f11 := b1.cell 11; have lF := b1.lt) | (go_at_call 69; refine (S2.out _).mono ?_; rintro e w1 ⟨rfl, hG1⟩; clear S2; clear m0 m1 m2 m3 m4 m5 m6 m7 m8 m9 m10 m11 m12 m13 m14 m15 m16 lM f0 f1 f2 f3 f4 f5 f6 f7 f8 f9 f10 f11 lF; replace b0 := b0.keep hG1; replace b1 := b1.keep hG1; replace g0 := g0.t hG1; clear hG1; have m0 := b0.cell 0; have m1 := b0.cell 1; have m2 := b0.cell 2; have m3 := b0.cell 3; have m4 := b0.cell 4; have m5 := b0.cell 5; have m6 := b0.cell 6; have m7 := b0.cell 7; have m8 := b0.cell 8; have m9 := b0.cell 9; have m10 := b0.cell 10; have m11 := b0.cell 11; have m12 := b0.cell 12; have m13 := b0.cell 13; have m14 := b0.cell 14; have m15 := b0.cell 15; have m16 := b0.cell 16; have lM := b0.lt; have f0 := b1.cell 0; have f1 := b1.cell 1; have f2 := b1.cell 2; have f3 := b1.cell 3; have f4 := b1.cell 4; have f5 := b1.cell 5; have f6 := b1.cell 6; have f7 := b1.cell 7; have f8 := b1.cell 8; have f9 := b1.cell 9; have f10 := b1.cell 10; have f11 := b1.cell 11; have lF := b1.lt) | (go_at_call 69; refine (S3.out _).mono ?_; rintro e w1 ⟨rfl, hG1⟩; clear S3; clear m0 m1 m2 m3 m4 m5 m6 m7 m8 m9 m10 m11 m12 m13 m14 m15 m16 lM f0 f1 f2 f3 f4 f5 f6 f7 f8 f9 f10 f11 lF; replace b0 := b0.keep hG1; replace b1 := b1.keep hG1; replace g0 := g0.t hG1; clear hG1; have m0 := b0.cell 0; have m1 := b0.cell 1; have m2 := b0.cell 2; have m3 := b0.cell 3; have m4 := b0.cell 4; have m5 := b0.cell 5; have m6 := b0.cell 6; have m7 := b0.cell 7; have m8 := b0.cell 8; have m9 := b0.cell 9; have m10 := b0.cell 10; have m11 := b0.cell 11; have m12 := b0.cell 12; have m13 := b0.cell 13; have m14 := b0.cell 14; have m15 := b0.cell 15; have m16 := b0.cell 16; have lM := b0.lt; have f0 := b1.cell 0; have f1 := b1.cell 1; have f2 := b1.cell 2; have f3 := b1.cell 3; have f4 := b1.cell 4; have f5 := b1.cell 5; have f6 := b1.cell 6; have f7 := b1.cell 7; have f8 := b1.cell 8; have f9 := b1.cell 9; have f10 := b1.cell 10; have f11 := b1.cell 11; have lF := b1.lt) | (go_at_call 72; refine (HCT.out _ _ (Blk.new _ _ _)).mono ?_; rintro e w1 ⟨rfl, hG1⟩))
  go_ret
  exact ⟨by rw [HR.out]; first | done | rfl, (g0.a _).t hG1⟩
/-- the closure that tells whether a front is not valid -/
theorem clos33_all (B : Nat) (d : Nat → Int) (W : World) (hB : Blk W B 35 #[.int .i64 north, .int .i64 cols, .slice ea el ec, .int .i64 lofts, sv, .int .i64 wrong, .int .i64 bx, .int .i64 bY, hv, .int .i64 sl, .int .i64 sh, fv, .int .i64 lw, .int .i64 lg, .int .i64 lh, .int .i64 hours, .int .i64 dark]) (hc : 1 ≤ cols ∧ cols ≤ 9223372036854775807) (hel : el ≤ 9223372036854775807) (hh : 1 ≤ hours ∧ hours ≤ 12) :
    Calls Tryz.prog 33 #[.agg #[.int .i64 (d 0), .int .i64 (d 1), .int .i64 (d 2), .int .i64 (d 3), .int .i64 (d 4), .int .i64 (d 5), .int .i64 (d 6), .int .i64 (d 7), .int .i64 (d 8), .int .i64 (d 9), .int .i64 (d 10), .int .i64 (d 11)], .pointer (some ⟨B, 0, none⟩)] W fun e w' => e = .returned (.bool (!frontB cols el hours d)) ∧ G W w' := by
  have HP := Lib.hid (fun (W : World) => validFront_all north cols lofts wrong bx bY sl sh lw lg lh hours dark ea el ec sv hv fv d W hc hel hh)
  have g0 : G W (W.alloc (.cells #[.int .i64 (d 0), .int .i64 (d 1), .int .i64 (d 2), .int .i64 (d 3), .int .i64 (d 4), .int .i64 (d 5), .int .i64 (d 6), .int .i64 (d 7), .int .i64 (d 8), .int .i64 (d 9), .int .i64 (d 10), .int .i64 (d 11)] 71)) := (G.rf _).a _
  have b0 := hB.keep g0
  have b1 := Blk.new W 71 #[.int .i64 (d 0), .int .i64 (d 1), .int .i64 (d 2), .int .i64 (d 3), .int .i64 (d 4), .int .i64 (d 5), .int .i64 (d 6), .int .i64 (d 7), .int .i64 (d 8), .int .i64 (d 9), .int .i64 (d 10), .int .i64 (d 11)]
  have m0 := b0.cell 0; have m1 := b0.cell 1; have m2 := b0.cell 2; have m3 := b0.cell 3; have m4 := b0.cell 4; have m5 := b0.cell 5; have m6 := b0.cell 6; have m7 := b0.cell 7; have m8 := b0.cell 8; have m9 := b0.cell 9; have m10 := b0.cell 10; have m11 := b0.cell 11; have m12 := b0.cell 12; have m13 := b0.cell 13; have m14 := b0.cell 14; have m15 := b0.cell 15; have m16 := b0.cell 16; have lM := b0.lt; have f0 := b1.cell 0; have f1 := b1.cell 1; have f2 := b1.cell 2; have f3 := b1.cell 3; have f4 := b1.cell 4; have f5 := b1.cell 5; have f6 := b1.cell 6; have f7 := b1.cell 7; have f8 := b1.cell 8; have f9 := b1.cell 9; have f10 := b1.cell 10; have f11 := b1.cell 11; have lF := b1.lt
  go_enter Tryz.func33, Tryz.ntmps33
  go_wp2_with (go_at_call 34; refine (HP.out _).mono ?_; rintro e w1 ⟨rfl, hG1⟩)
  go_ret
  exact ⟨rfl, g0.t hG1⟩
end
section
variable (north cols lofts wrong bx bY sl sh lw lg lh hours dark : Int) (east : List Int) (svs : List Sv) (n k : Nat) (h f : Nat → Nat → Int) (ea sa ha fa : Option Addr) (ec sc hc fc : Nat) (W : World)
/-- the error of a release -/
def chkE : Int := if relB north cols lofts wrong bx bY sl sh lw lg lh hours dark east svs n h = false then 60 else if 12 < k ∨ anyU (fun i => !frontB cols east.length hours (f i)) k = true then 61 else 0
theorem rel_facts (hr : relB north cols lofts wrong bx bY sl sh lw lg lh hours dark east svs n h = true) : (1 ≤ cols ∧ cols ≤ 10) ∧ (1 ≤ hours ∧ hours ≤ 12) ∧ east.length ≤ 10 ∧ checkE north cols east lofts svs wrong = 0 := by
  unfold relB at hr
  simp only [Bool.and_eq_true, decide_eq_true_eq] at hr
  have hvb := vm_bounds (checkE_ok hr.1)
  have hh := hr.2.2.2.2.2.2.2.2.1
  unfold isInB at hh
  simp only [Bool.and_eq_true, decide_eq_true_eq] at hh
  exact ⟨by omega, hh, by omega, hr.1⟩
set_option maxRecDepth 100000 in
set_option maxHeartbeats 16000000 in
theorem Check_all (he : IntsAt W ea east) (hs : SvsAt W sa svs) (hl : east.length ≤ 9223372036854775807) (hl2 : svs.length ≤ 9223372036854775807) (hH : RowAt W ha n 2 h) (hn : n ≤ 9223372036854775807) (hF : RowAt W fa k 12 f) :
    Calls Tryz.prog 9 #[.agg #[.int .i64 north, .int .i64 cols, .slice ea east.length ec, .int .i64 lofts, .slice sa svs.length sc, .int .i64 wrong, .int .i64 bx, .int .i64 bY, .slice ha n hc, .int .i64 sl, .int .i64 sh, .slice fa k fc, .int .i64 lw, .int .i64 lg, .int .i64 lh, .int .i64 hours, .int .i64 dark]] W fun e w' => e = .returned (.int .i64 (chkE north cols lofts wrong bx bY sl sh lw lg lh hours dark east svs n k h f)) ∧ G W w' := by
  have HV := Lib.hid (fun (W' : World) (hW : G W W') => validRelease_all north cols lofts wrong bx bY sl sh lw lg lh hours dark east svs n k h ea sa ha fa ec sc hc fc W' (he.below hW) (hs.below hW) hl hl2 (hH.below hW) hn)
  have HIS : Hid (IsRel #[.int .i64 north, .int .i64 cols, .slice ea east.length ec, .int .i64 lofts, .slice sa svs.length sc, .int .i64 wrong, .int .i64 bx, .int .i64 bY, .slice ha n hc, .int .i64 sl, .int .i64 sh, .slice fa k fc, .int .i64 lw, .int .i64 lg, .int .i64 lh, .int .i64 hours, .int .i64 dark]) := ⟨_, _, _, _, _, _, _, _, _, _, _, _, _, _, _, _, _, _, _, _, _, _, _, _, _, rfl⟩
  have g0 : G W (W.alloc (.cells #[.int .i64 north, .int .i64 cols, .slice ea east.length ec, .int .i64 lofts, .slice sa svs.length sc, .int .i64 wrong, .int .i64 bx, .int .i64 bY, .slice ha n hc, .int .i64 sl, .int .i64 sh, .slice fa k fc, .int .i64 lw, .int .i64 lg, .int .i64 lh, .int .i64 hours, .int .i64 dark] 35)) := (G.rf _).a _
  have b0 := Blk.new W 35 #[.int .i64 north, .int .i64 cols, .slice ea east.length ec, .int .i64 lofts, .slice sa svs.length sc, .int .i64 wrong, .int .i64 bx, .int .i64 bY, .slice ha n hc, .int .i64 sl, .int .i64 sh, .slice fa k fc, .int .i64 lw, .int .i64 lg, .int .i64 lh, .int .i64 hours, .int .i64 dark]
  go_enter Tryz.func9, Tryz.ntmps9
  go_upto_region 1 with fail
  change Code.wp _ _ _ _ (W.alloc (.cells #[.int .i64 north, .int .i64 cols, .slice ea east.length ec, .int .i64 lofts, .slice sa svs.length sc, .int .i64 wrong, .int .i64 bx, .int .i64 bY, .slice ha n hc, .int .i64 sl, .int .i64 sh, .slice fa k fc, .int .i64 lw, .int .i64 lg, .int .i64 lh, .int .i64 hours, .int .i64 dark] 35))
  generalize W.alloc (.cells #[.int .i64 north, .int .i64 cols, .slice ea east.length ec, .int .i64 lofts, .slice sa svs.length sc, .int .i64 wrong, .int .i64 bx, .int .i64 bY, .slice ha n hc, .int .i64 sl, .int .i64 sh, .slice fa k fc, .int .i64 lw, .int .i64 lg, .int .i64 lh, .int .i64 hours, .int .i64 dark] 35) = w1 at *
  refine wp_region_lit ?_
  refine wpList_load35 W.heap.size 1 HIS.out rfl rfl rfl b0 ?_
  try simp only [Act.put, List.getElem_toArray, List.getElem_cons_zero, List.getElem_cons_succ, List.setIfInBounds_toArray, List.set_cons_zero, List.set_cons_succ]
  refine wpList_plain rfl fun K hK => ?_
  go_simp
  refine (HV.out _ g0).mono ?_
  rintro e w2 ⟨rfl, hG2⟩
  refine hK _ _ ?_
  clear hK K HV
  try simp only [Act.put, List.getElem_toArray, List.getElem_cons_zero, List.getElem_cons_succ, List.setIfInBounds_toArray, List.set_cons_zero, List.set_cons_succ]
  replace b0 := b0.keep hG2
  replace g0 := g0.t hG2
  clear hG2
  cases e1 : relB north cols lofts wrong bx bY sl sh lw lg lh hours dark east svs n h
  · have HR : Hid (chkE north cols lofts wrong bx bY sl sh lw lg lh hours dark east svs n k h f = 60) := by unfold Hid chkE; rw [if_pos e1]
    clear e1
    go_wp2_with fail
    go_ret
    exact ⟨by rw [HR.out]; first | done | rfl, g0⟩
  obtain ⟨r1, r2, r3, r4⟩ := rel_facts north cols lofts wrong bx bY sl sh lw lg lh hours dark east svs n h e1
  have m11 : w2.cell? ⟨W.heap.size, 11, none⟩ = some (.slice fa k fc) := b0.cell 11
  have lM := b0.lt
  by_cases e2 : 12 < k
  · have HR : Hid (chkE north cols lofts wrong bx bY sl sh lw lg lh hours dark east svs n k h f = 61) := by unfold Hid chkE; rw [if_neg (by rw [e1]; simp), if_pos (.inl e2)]
    have t1 : decide ((12 : Int) < (k : Int)) = true := decide_eq_true (by omega)
    have t2 : (12 : Int) < (k : Int) := by omega
    clear e1
    go_wp2_with fail
    go_ret
    exact ⟨by rw [HR.out]; first | done | rfl, g0⟩
  have t1 : decide ((12 : Int) < (k : Int)) = false := decide_eq_false (by omega)
  have t2 : ¬ (12 : Int) < (k : Int) := by omega
  have t3 : decide (12 < k) = false := decide_eq_false e2
  have hCT := CtFr_any 33 (enters_of Tryz.func33 (by kernel_rfl) rfl) #[.pointer (some ⟨W.heap.size, 0, none⟩)] w2 fa fc k f (fun i => !frontB cols east.length hours (f i)) (by omega) (hF.below g0)
    (fun W2 hW2 i hi => clos33_all north cols lofts wrong bx bY sl sh lw lg lh hours dark ea east.length ec (.slice sa svs.length sc) (.slice ha n hc) (.slice fa k fc) W.heap.size (f i) W2 (b0.keep hW2) (by omega) (by omega) r2)
  have HCT := Lib.hid hCT
  clear hCT
  cases e3 : anyU (fun i => !frontB cols east.length hours (f i)) k
  · have HR : Hid (chkE north cols lofts wrong bx bY sl sh lw lg lh hours dark east svs n k h f = 0) := by unfold Hid chkE; rw [if_neg (by rw [e1]; simp), if_neg (by rw [e3]; simp; omega)]
    rw [e3] at HCT
    clear e1 e3
    go_wp2_with (go_at_call 32; refine (HCT.out).mono ?_; rintro e w3 ⟨rfl, hG3⟩)
    go_ret
    exact ⟨by rw [HR.out]; first | done | rfl, g0.t hG3⟩
  · have HR : Hid (chkE north cols lofts wrong bx bY sl sh lw lg lh hours dark east svs n k h f = 61) := by unfold Hid chkE; rw [if_neg (by rw [e1]; simp), if_pos (.inr e3)]
    rw [e3] at HCT
    clear e1 e3
    go_wp2_with (go_at_call 32; refine (HCT.out).mono ?_; rintro e w3 ⟨rfl, hG3⟩)
    go_ret
    exact ⟨by rw [HR.out]; first | done | rfl, g0.t hG3⟩
end
end Go.Proofs.YtcekdljjmfkacaaGreat
