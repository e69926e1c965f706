import Derived.Test.YtcekdljjmfkacaaGreatMa
set_option linter.unusedSimpArgs false
set_option linter.unusedVariables false
namespace Go.Proofs.YtcekdljjmfkacaaGreat
open Go.RowKit
attribute [local go_sem] Oper.semAt_some

section
variable (north cols lofts wrong bx bY sl sh lw lg lh hours dark : Int) (ea : Option Addr) (el ec : Nat) (sv hv fv : Value)
set_option maxHeartbeats 1000000 in
theorem clos62_any (B : Nat) (d : Nat → Int) (W : World) (hB : Blk W B 35 #[.int .i64 north, .int .i64 cols, .slice ea el ec, .int .i64 lofts, sv, .int .i64 wrong, .int .i64 bx, .int .i64 bY, hv, .int .i64 sl, .int .i64 sh, fv, .int .i64 lw, .int .i64 lg, .int .i64 lh, .int .i64 hours, .int .i64 dark]) (hc : 1 ≤ cols ∧ cols ≤ 9223372036854775807) (hel : el ≤ 9223372036854775807) (hh : 1 ≤ hours ∧ hours ≤ 12) (hf : FrontOk cols el hours d) :
    Calls Tryz.prog 33 #[.agg #[.int .i64 (d 0), .int .i64 (d 1), .int .i64 (d 2), .int .i64 (d 3), .int .i64 (d 4), .int .i64 (d 5), .int .i64 (d 6), .int .i64 (d 7), .int .i64 (d 8), .int .i64 (d 9), .int .i64 (d 10), .int .i64 (d 11)], .pointer (some ⟨B, 0, none⟩)] W fun e w' => e = .returned (.bool false) ∧ G W w' := by
  have HP := Lib.hid (fun (W : World) => validFront_ok north cols lofts wrong bx bY sl sh lw lg lh hours dark ea el ec sv hv fv d W hc hel hh hf.h1 hf.h2 hf.h3 hf.h4 hf.h5 hf.h6)
  have g0 : G W (W.alloc (.cells #[.int .i64 (d 0), .int .i64 (d 1), .int .i64 (d 2), .int .i64 (d 3), .int .i64 (d 4), .int .i64 (d 5), .int .i64 (d 6), .int .i64 (d 7), .int .i64 (d 8), .int .i64 (d 9), .int .i64 (d 10), .int .i64 (d 11)] 71)) := (G.rf _).a _
  have b0 := hB.keep g0
  have b1 := Blk.new W 71 #[.int .i64 (d 0), .int .i64 (d 1), .int .i64 (d 2), .int .i64 (d 3), .int .i64 (d 4), .int .i64 (d 5), .int .i64 (d 6), .int .i64 (d 7), .int .i64 (d 8), .int .i64 (d 9), .int .i64 (d 10), .int .i64 (d 11)]
  clear hf
  have m0 := b0.cell 0; have m1 := b0.cell 1; have m2 := b0.cell 2; have m3 := b0.cell 3; have m4 := b0.cell 4; have m5 := b0.cell 5; have m6 := b0.cell 6; have m7 := b0.cell 7; have m8 := b0.cell 8; have m9 := b0.cell 9; have m10 := b0.cell 10; have m11 := b0.cell 11; have m12 := b0.cell 12; have m13 := b0.cell 13; have m14 := b0.cell 14; have m15 := b0.cell 15; have m16 := b0.cell 16; have lM := b0.lt; have f0 := b1.cell 0; have f1 := b1.cell 1; have f2 := b1.cell 2; have f3 := b1.cell 3; have f4 := b1.cell 4; have f5 := b1.cell 5; have f6 := b1.cell 6; have f7 := b1.cell 7; have f8 := b1.cell 8; have f9 := b1.cell 9; have f10 := b1.cell 10; have f11 := b1.cell 11; have lF := b1.lt
  go_enter Tryz.func33, Tryz.ntmps33
  go_wp2_with (go_at_call 34; refine (HP.out _).mono ?_; rintro e w1 ⟨rfl, hG1⟩)
  go_ret
  exact ⟨rfl, g0.t hG1⟩
theorem isHome_any (n : Nat) (ha : Option Addr) (hc : Nat) (i : Int) (W : World) (hn : n ≤ 1000) : Calls Tryz.prog 39 #[.agg #[.int .i64 north, .int .i64 cols, .slice ea el ec, .int .i64 lofts, sv, .int .i64 wrong, .int .i64 bx, .int .i64 bY, .slice ha n hc, .int .i64 sl, .int .i64 sh, fv, .int .i64 lw, .int .i64 lg, .int .i64 lh, .int .i64 hours, .int .i64 dark], .int .i64 i] W fun e w' => e = .returned (.bool (isInB i 0 ((n : Int) - 1))) ∧ G W w' := by
  have x1 : IntKind.i64.wrap ((n : Int) - 1) = (n : Int) - 1 := IntWalk.i64_in _ (by omega)
  have g0 : G W (W.alloc (.cells #[.int .i64 north, .int .i64 cols, .slice ea el ec, .int .i64 lofts, sv, .int .i64 wrong, .int .i64 bx, .int .i64 bY, .slice ha n hc, .int .i64 sl, .int .i64 sh, fv, .int .i64 lw, .int .i64 lg, .int .i64 lh, .int .i64 hours, .int .i64 dark] 35)) := (G.rf _).a _
  go_enter Tryz.func39, Tryz.ntmps39
  go_wp2_with (go_at_call 50; refine (lUpTo_any _ _ _).mono ?_; rintro e w' ⟨rfl, hG⟩)
  go_ret
  exact ⟨rfl, g0.t hG⟩
end
section
variable (north cols lofts wrong bx bY sl sh lw lg lh hours dark : Int) (east : List Int) (svs : List Sv) (n k : Nat) (h f : Nat → Nat → Int) (ea sa ha fa : Option Addr) (ec sc hc fc : Nat) (W : World)
set_option maxRecDepth 100000 in
set_option maxHeartbeats 4000000 in
theorem relCheck_ok (he : IntsAt W ea east) (hs : SvsAt W sa svs) (hk : checkE north cols east lofts svs wrong = 0) (hr : RelOk cols east.length bx bY sl sh lw lg lh hours dark n h) (hH : RowAt W ha n 2 h) (hF : RowAt W fa k 12 f) (hk12 : k ≤ 12) (hfo : ∀ i, i < k → FrontOk cols east.length hours (f i)) :
    Calls Tryz.prog 9 #[.agg #[.int .i64 north, .int .i64 cols, .slice ea east.length ec, .int .i64 lofts, .slice sa svs.length sc, .int .i64 wrong, .int .i64 bx, .int .i64 bY, .slice ha n hc, .int .i64 sl, .int .i64 sh, .slice fa k fc, .int .i64 lw, .int .i64 lg, .int .i64 lh, .int .i64 hours, .int .i64 dark]] W fun e w' => e = .returned (.int .i64 0) ∧ G W w' := by
  have hvb := vm_bounds (checkE_ok hk)
  have hhr : 1 ≤ hours ∧ hours ≤ 12 := by have := hr.hrs; simp [isInB] at this; omega
  have HV := Lib.hid (fun (W' : World) (hW : G W W') => validRelease_ok north cols lofts wrong bx bY sl sh lw lg lh hours dark east svs n k h ea sa ha fa ec sc hc fc W' (he.below hW) (hs.below hW) hk hr (hH.below hW))
  have HCT := Lib.hid (fun (W' : World) (hW : G W W') (B : Nat) (hB : Blk W' B 35 #[.int .i64 north, .int .i64 cols, .slice ea east.length ec, .int .i64 lofts, .slice sa svs.length sc, .int .i64 wrong, .int .i64 bx, .int .i64 bY, .slice ha n hc, .int .i64 sl, .int .i64 sh, .slice fa k fc, .int .i64 lw, .int .i64 lg, .int .i64 lh, .int .i64 hours, .int .i64 dark]) => CtFront_none 33 (enters_of Tryz.func33 (by kernel_rfl) rfl) #[.pointer (some ⟨B, 0, none⟩)] W' fa fc k f (by omega) (hF.below hW)
    (fun W2 hW2 i hi => clos62_any north cols lofts wrong bx bY sl sh lw lg lh hours dark ea east.length ec (.slice sa svs.length sc) (.slice ha n hc) (.slice fa k fc) B (f i) W2 (hB.keep hW2) (by omega) (by omega) hhr (hfo i hi)))
  have hk12i : ¬ (12 : Int) < k := by omega
  clear hvb hk hr hH he hs hF hfo
  have g0 : G W (W.alloc (.cells #[.int .i64 north, .int .i64 cols, .slice ea east.length ec, .int .i64 lofts, .slice sa svs.length sc, .int .i64 wrong, .int .i64 bx, .int .i64 bY, .slice ha n hc, .int .i64 sl, .int .i64 sh, .slice fa k fc, .int .i64 lw, .int .i64 lg, .int .i64 lh, .int .i64 hours, .int .i64 dark] 35)) := (G.rf _).a _
  have b0 := Blk.new W 35 #[.int .i64 north, .int .i64 cols, .slice ea east.length ec, .int .i64 lofts, .slice sa svs.length sc, .int .i64 wrong, .int .i64 bx, .int .i64 bY, .slice ha n hc, .int .i64 sl, .int .i64 sh, .slice fa k fc, .int .i64 lw, .int .i64 lg, .int .i64 lh, .int .i64 hours, .int .i64 dark]
  have m0 := b0.cell 0; have m1 := b0.cell 1; have m2 := b0.cell 2; have m3 := b0.cell 3; have m4 := b0.cell 4; have m5 := b0.cell 5; have m6 := b0.cell 6; have m7 := b0.cell 7; have m8 := b0.cell 8; have m9 := b0.cell 9; have m10 := b0.cell 10; have m11 := b0.cell 11; have m12 := b0.cell 12; have m13 := b0.cell 13; have m14 := b0.cell 14; have m15 := b0.cell 15; have m16 := b0.cell 16; have lM := b0.lt
  go_enter Tryz.func9, Tryz.ntmps9
  go_wp2_with (first | (go_at_call 31; refine (HV.out _ g0).mono ?_; rintro e w1 ⟨rfl, hG1⟩; clear m0 m1 m2 m3 m4 m5 m6 m7 m8 m9 m10 m11 m12 m13 m14 m15 m16 lM; replace b0 := b0.keep hG1; replace g0 := g0.t hG1; clear hG1; have m0 := b0.cell 0; have m1 := b0.cell 1; have m2 := b0.cell 2; have m3 := b0.cell 3; have m4 := b0.cell 4; have m5 := b0.cell 5; have m6 := b0.cell 6; have m7 := b0.cell 7; have m8 := b0.cell 8; have m9 := b0.cell 9; have m10 := b0.cell 10; have m11 := b0.cell 11; have m12 := b0.cell 12; have m13 := b0.cell 13; have m14 := b0.cell 14; have m15 := b0.cell 15; have m16 := b0.cell 16; have lM := b0.lt) | (go_at_call 32; refine (HCT.out _ g0 _ b0).mono ?_; rintro e w1 ⟨rfl, hG1⟩; clear m0 m1 m2 m3 m4 m5 m6 m7 m8 m9 m10 m11 m12 m13 m14 m15 m16 lM; replace b0 := b0.keep hG1; replace g0 := g0.t hG1; clear hG1))
  go_ret
  exact ⟨rfl, g0⟩
theorem relQuestion_ok (he : IntsAt W ea east) (hs : SvsAt W sa svs) (hk : checkE north cols east lofts svs wrong = 0) (hr : RelOk cols east.length bx bY sl sh lw lg lh hours dark n h) (hH : RowAt W ha n 2 h) (hF : RowAt W fa k 12 f) (hk12 : k ≤ 12) (hfo : ∀ i, i < k → FrontOk cols east.length hours (f i)) :
    Calls Tryz.prog 38 #[.agg #[.int .i64 north, .int .i64 cols, .slice ea east.length ec, .int .i64 lofts, .slice sa svs.length sc, .int .i64 wrong, .int .i64 bx, .int .i64 bY, .slice ha n hc, .int .i64 sl, .int .i64 sh, .slice fa k fc, .int .i64 lw, .int .i64 lg, .int .i64 lh, .int .i64 hours, .int .i64 dark], .bool true] W fun e w' => e = .returned (.int .i64 0) ∧ G W w' := by
  have HV := Lib.hid (fun (W' : World) (hW : G W W') => relCheck_ok north cols lofts wrong bx bY sl sh lw lg lh hours dark east svs n k h f ea sa ha fa ec sc hc fc W' (he.below hW) (hs.below hW) hk hr (hH.below hW) (hF.below hW) hk12 hfo)
  clear hk hr hH he hs hF hfo
  have g0 : G W (W.alloc (.cells #[.int .i64 north, .int .i64 cols, .slice ea east.length ec, .int .i64 lofts, .slice sa svs.length sc, .int .i64 wrong, .int .i64 bx, .int .i64 bY, .slice ha n hc, .int .i64 sl, .int .i64 sh, .slice fa k fc, .int .i64 lw, .int .i64 lg, .int .i64 lh, .int .i64 hours, .int .i64 dark] 35)) := (G.rf _).a _
  go_enter Tryz.func38, Tryz.ntmps38
  go_wp2_with (go_at_call 9; refine (HV.out _ g0).mono ?_; rintro e w1 ⟨rfl, hG1⟩)
  go_ret
  exact ⟨rfl, g0.t hG1⟩
end
end Go.Proofs.YtcekdljjmfkacaaGreat
