import Derived.Test.YtcekdljjmfkacaaLd
set_option linter.unusedSimpArgs false
set_option linter.unusedVariables false
namespace Go.Proofs.Ytcekdljjmfkacaa
open Go.RowKit
attribute [local go_sem] Oper.semAt_some

section
variable (north cols lofts wrong bx bY sl sh lw lg lh hours dark : Int) (ea : Option Addr) (el ec : Nat) (sv hv fv : Value)
theorem clos76_any (B : Nat) (x y : Int) (W : World) (hB : Blk W B 35 #[.int .i64 north, .int .i64 cols, .slice ea el ec, .int .i64 lofts, sv, .int .i64 wrong, .int .i64 bx, .int .i64 bY, hv, .int .i64 sl, .int .i64 sh, fv, .int .i64 lw, .int .i64 lg, .int .i64 lh, .int .i64 hours, .int .i64 dark]) (hc : 0 ≤ cols ∧ cols ≤ 9223372036854775807) (hel : el ≤ 9223372036854775807) (hp : isPlaceB cols el x y = true) :
    Calls Try.prog 110 #[.agg #[.int .i64 x, .int .i64 y], .pointer (some ⟨B, 0, none⟩)] W fun e w' => e = .returned (.bool false) ∧ G W w' := by
  have hP := fun (W : World) => lPlace_any north cols lofts wrong x y ea el ec sv W hc hel
  rw [hp] at hP
  have HP := Lib.hid hP
  clear hP
  have g0 : G W (W.alloc (.cells #[.int .i64 x, .int .i64 y] 27)) := (G.rf _).a _
  have b0 := hB.keep g0
  have b1 := Blk.new W 27 #[.int .i64 x, .int .i64 y]
  have m0 := b0.cell 0; have m1 := b0.cell 1; have m2 := b0.cell 2; have m3 := b0.cell 3; have m4 := b0.cell 4; have m5 := b0.cell 5; have m6 := b0.cell 6; have m7 := b0.cell 7; have m8 := b0.cell 8; have m9 := b0.cell 9; have m10 := b0.cell 10; have m11 := b0.cell 11; have m12 := b0.cell 12; have m13 := b0.cell 13; have m14 := b0.cell 14; have m15 := b0.cell 15; have m16 := b0.cell 16; have lM := b0.lt
  have f0 := b1.cell 0
  have f1 := b1.cell 1
  have l1 := b1.lt
  go_enter Try.func110, Try.ntmps110
  go_wp2_with (go_at_call 44; refine (HP.out _).mono ?_; rintro e w1 ⟨rfl, hG1⟩)
  go_ret
  exact ⟨rfl, g0.t hG1⟩
set_option maxRecDepth 100000 in
set_option maxHeartbeats 4000000 in
theorem validFront_ok (d : Nat → Int) (W : World) (hc : 1 ≤ cols ∧ cols ≤ 9223372036854775807) (hel : el ≤ 9223372036854775807) (hh : 1 ≤ hours ∧ hours ≤ 12) (h1 : spanB (d 0) (d 1) 0 (hours - 1) = true) (h2 : spanB (d 2) (d 3) 0 (cols - 1) = true) (h3 : spanB (d 4) (d 5) 0 ((el : Int) - 1) = true)
    (h4 : spanB (d 6) (d 7) 0 999 = true) (h5 : spanB (d 8) (d 9) 0 999 = true) (h6 : spanB (d 10) (d 11) 0 999 = true) :
    Calls Try.prog 89 #[.agg #[.int .i64 north, .int .i64 cols, .slice ea el ec, .int .i64 lofts, sv, .int .i64 wrong, .int .i64 bx, .int .i64 bY, hv, .int .i64 sl, .int .i64 sh, fv, .int .i64 lw, .int .i64 lg, .int .i64 lh, .int .i64 hours, .int .i64 dark], .agg #[.int .i64 (d 0), .int .i64 (d 1), .int .i64 (d 2), .int .i64 (d 3), .int .i64 (d 4), .int .i64 (d 5), .int .i64 (d 6), .int .i64 (d 7), .int .i64 (d 8), .int .i64 (d 9), .int .i64 (d 10), .int .i64 (d 11)]] W fun e w' => e = .returned (.bool true) ∧ G W w' := by
  obtain ⟨g0, b0, b1⟩ := w2_spec W #[.int .i64 north, .int .i64 cols, .slice ea el ec, .int .i64 lofts, sv, .int .i64 wrong, .int .i64 bx, .int .i64 bY, hv, .int .i64 sl, .int .i64 sh, fv, .int .i64 lw, .int .i64 lg, .int .i64 lh, .int .i64 hours, .int .i64 dark] #[.int .i64 (d 0), .int .i64 (d 1), .int .i64 (d 2), .int .i64 (d 3), .int .i64 (d 4), .int .i64 (d 5), .int .i64 (d 6), .int .i64 (d 7), .int .i64 (d 8), .int .i64 (d 9), .int .i64 (d 10), .int .i64 (d 11)] 35 60
  have x1 : IntKind.i64.wrap (hours - 1) = hours - 1 := IntWalk.i64_in _ (by omega)
  have x2 : IntKind.i64.wrap (cols - 1) = cols - 1 := IntWalk.i64_in _ (by omega)
  have x3 : IntKind.i64.wrap ((el : Int) - 1) = (el : Int) - 1 := IntWalk.i64_in _ (by omega)
  have s1 := fun (W : World) => lSpan_any (d 0) (d 1) 0 (hours - 1) W
  have s2 := fun (W : World) => lSpan_any (d 2) (d 3) 0 (cols - 1) W
  have s3 := fun (W : World) => lSpan_any (d 4) (d 5) 0 ((el : Int) - 1) W
  rw [h1] at s1
  rw [h2] at s2
  rw [h3] at s3
  have S1 := Lib.hid s1
  have S2 := Lib.hid s2
  have S3 := Lib.hid s3
  have hct := fun (W : World) (g : Nat) (hg : Blk W g 30 #[.int .i64 (d 6), .int .i64 (d 7), .int .i64 (d 8), .int .i64 (d 9), .int .i64 (d 10), .int .i64 (d 11)]) => CtSpan_none 112 (enters_of Try.func112 (by kernel_rfl) rfl) #[] W (some ⟨g, 0, none⟩) 3 3 (fun i r => d (6 + i * 2 + r)) (by omega)
    (.inr ⟨g, 0, rfl, hg.lt, fun i hi r hr => by
      rw [hg.cell]
      match i, hi, r, hr with
      | 0, _, 0, _ => rfl
      | 0, _, 1, _ => rfl
      | 1, _, 0, _ => rfl
      | 1, _, 1, _ => rfl
      | 2, _, 0, _ => rfl
      | 2, _, 1, _ => rfl⟩)
    (fun W' hW i hi => by
      have h := lWx_any (d (6 + i * 2 + 0)) (d (6 + i * 2 + 1)) W'
      have e : spanB (d (6 + i * 2 + 0)) (d (6 + i * 2 + 1)) 0 999 = true := by
        match i, hi with
        | 0, _ => exact h4
        | 1, _ => exact h5
        | 2, _ => exact h6
      rw [e] at h
      exact h)
  have HCT := Lib.hid hct
  clear s1 s2 s3 hct h1 h2 h3 h4 h5 h6
  have m0 := b0.cell 0; have m1 := b0.cell 1; have m2 := b0.cell 2; have m3 := b0.cell 3; have m4 := b0.cell 4; have m5 := b0.cell 5; have m6 := b0.cell 6; have m7 := b0.cell 7; have m8 := b0.cell 8; have m9 := b0.cell 9; have m10 := b0.cell 10; have m11 := b0.cell 11; have m12 := b0.cell 12; have m13 := b0.cell 13; have m14 := b0.cell 14; have m15 := b0.cell 15; have m16 := b0.cell 16; have lM := b0.lt; have f0 := b1.cell 0; have f1 := b1.cell 1; have f2 := b1.cell 2; have f3 := b1.cell 3; have f4 := b1.cell 4; have f5 := b1.cell 5; have f6 := b1.cell 6; have f7 := b1.cell 7; have f8 := b1.cell 8; have f9 := b1.cell 9; have f10 := b1.cell 10; have f11 := b1.cell 11; have lF := b1.lt
  go_enter Try.func89, Try.ntmps89
  go_wp2_with (first | (go_at_call 83; refine (S1.out _).mono ?_; rintro e w1 ⟨rfl, hG1⟩; clear S1; clear m0 m1 m2 m3 m4 m5 m6 m7 m8 m9 m10 m11 m12 m13 m14 m15 m16 lM f0 f1 f2 f3 f4 f5 f6 f7 f8 f9 f10 f11 lF; replace b0 := b0.keep hG1; replace b1 := b1.keep hG1; replace g0 := g0.t hG1; clear hG1; have m0 := b0.cell 0; have m1 := b0.cell 1; have m2 := b0.cell 2; have m3 := b0.cell 3; have m4 := b0.cell 4; have m5 := b0.cell 5; have m6 := b0.cell 6; have m7 := b0.cell 7; have m8 := b0.cell 8; have m9 := b0.cell 9; have m10 := b0.cell 10; have m11 := b0.cell 11; have m12 := b0.cell 12; have m13 := b0.cell 13; have m14 := b0.cell 14; have m15 := b0.cell 15; have m16 := b0.cell 16; have lM := b0.lt; have f0 := b1.cell 0; have f1 := b1.cell 1; have f2 := b1.cell 2; have f3 := b1.cell 3; have f4 := b1.cell 4; have f5 := b1.cell 5; have f6 := b1.cell 6; have f7 := b1.cell 7; have f8 := b1.cell 8; have f9 := b1.cell 9; have f10 := b1.cell 10; have f11 := b1.cell 11; have lF := b1.lt) | (go_at_call 83; refine (S2.out _).mono ?_; rintro e w1 ⟨rfl, hG1⟩; clear S2; clear m0 m1 m2 m3 m4 m5 m6 m7 m8 m9 m10 m11 m12 m13 m14 m15 m16 lM f0 f1 f2 f3 f4 f5 f6 f7 f8 f9 f10 f11 lF; replace b0 := b0.keep hG1; replace b1 := b1.keep hG1; replace g0 := g0.t hG1; clear hG1; have m0 := b0.cell 0; have m1 := b0.cell 1; have m2 := b0.cell 2; have m3 := b0.cell 3; have m4 := b0.cell 4; have m5 := b0.cell 5; have m6 := b0.cell 6; have m7 := b0.cell 7; have m8 := b0.cell 8; have m9 := b0.cell 9; have m10 := b0.cell 10; have m11 := b0.cell 11; have m12 := b0.cell 12; have m13 := b0.cell 13; have m14 := b0.cell 14; have m15 := b0.cell 15; have m16 := b0.cell 16; have lM := b0.lt; have f0 := b1.cell 0; have f1 := b1.cell 1; have f2 := b1.cell 2; have f3 := b1.cell 3; have f4 := b1.cell 4; have f5 := b1.cell 5; have f6 := b1.cell 6; have f7 := b1.cell 7; have f8 := b1.cell 8; have f9 := b1.cell 9; have f10 := b1.cell 10; have f11 := b1.cell 11; have lF := b1.lt) | (go_at_call 83; refine (S3.out _).mono ?_; rintro e w1 ⟨rfl, hG1⟩; clear S3; clear m0 m1 m2 m3 m4 m5 m6 m7 m8 m9 m10 m11 m12 m13 m14 m15 m16 lM f0 f1 f2 f3 f4 f5 f6 f7 f8 f9 f10 f11 lF; replace b0 := b0.keep hG1; replace b1 := b1.keep hG1; replace g0 := g0.t hG1; clear hG1; have m0 := b0.cell 0; have m1 := b0.cell 1; have m2 := b0.cell 2; have m3 := b0.cell 3; have m4 := b0.cell 4; have m5 := b0.cell 5; have m6 := b0.cell 6; have m7 := b0.cell 7; have m8 := b0.cell 8; have m9 := b0.cell 9; have m10 := b0.cell 10; have m11 := b0.cell 11; have m12 := b0.cell 12; have m13 := b0.cell 13; have m14 := b0.cell 14; have m15 := b0.cell 15; have m16 := b0.cell 16; have lM := b0.lt; have f0 := b1.cell 0; have f1 := b1.cell 1; have f2 := b1.cell 2; have f3 := b1.cell 3; have f4 := b1.cell 4; have f5 := b1.cell 5; have f6 := b1.cell 6; have f7 := b1.cell 7; have f8 := b1.cell 8; have f9 := b1.cell 9; have f10 := b1.cell 10; have f11 := b1.cell 11; have lF := b1.lt) | (go_at_call 81; refine (HCT.out _ _ (Blk.new _ _ _)).mono ?_; rintro e w2 ⟨rfl, hG1⟩))
  go_ret
  exact ⟨rfl, (g0.a _).t hG1⟩
end
end Go.Proofs.Ytcekdljjmfkacaa
