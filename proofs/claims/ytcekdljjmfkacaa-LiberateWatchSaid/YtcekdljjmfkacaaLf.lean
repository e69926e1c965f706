import Derived.Test.YtcekdljjmfkacaaLe
set_option linter.unusedSimpArgs false
set_option linter.unusedVariables false
namespace Go.Proofs.Ytcekdljjmfkacaa
open Go.RowKit
attribute [local go_sem] Oper.semAt_some

/-- a slice of elements of so many numbers each -/
def RowAt (W : World) (a : Option Addr) (n z : Nat) (c : Nat → Nat → Int) : Prop := n = 0 ∨ ∃ g off, a = some ⟨g, off, none⟩ ∧ g < W.heap.size ∧ ∀ i, i < n → ∀ r, r < z → W.cell? ⟨g, off + i * z + r, none⟩ = some (.int .i64 (c i r))
theorem RowAt.below {W W' : World} {a : Option Addr} {n z : Nat} {c : Nat → Nat → Int} (h : RowAt W a n z c) (hG : G W W') : RowAt W' a n z c := by
  rcases h with h | ⟨g, off, h1, h2, h3⟩
  · exact .inl h
  · exact .inr ⟨g, off, h1, Nat.lt_of_lt_of_le h2 hG.size, fun i hi r hr => ((bcellB hG).1 g _ h2).trans (h3 i hi r hr)⟩
/-- what a valid release is, but for its map and its fronts -/
structure RelOk (cols : Int) (el : Nat) (bx bY sl sh lw lg lh hours dark : Int) (n : Nat) (h : Nat → Nat → Int) : Prop where
  base : isPlaceB cols el bx bY = true
  many : n ≤ 6
  homes : ∀ i, i < n → isPlaceB cols el (h i 0) (h i 1) = true
  speed : spanB sl sh 1 3000000 = true
  wind : isInB lw 0 999 = true
  sight : isInB lg 0 999 = true
  heat : isInB lh 0 999 = true
  hrs : isInB hours 1 12 = true
  drk : isInB dark 0 9999 = true
structure FrontOk (cols : Int) (el : Nat) (hours : Int) (d : Nat → Int) : Prop where
  h1 : spanB (d 0) (d 1) 0 (hours - 1) = true
  h2 : spanB (d 2) (d 3) 0 (cols - 1) = true
  h3 : spanB (d 4) (d 5) 0 ((el : Int) - 1) = true
  h4 : spanB (d 6) (d 7) 0 999 = true
  h5 : spanB (d 8) (d 9) 0 999 = true
  h6 : spanB (d 10) (d 11) 0 999 = true
section
variable (north cols lofts wrong bx bY sl sh lw lg lh hours dark : Int) (east : List Int) (svs : List Sv) (n k : Nat) (h f : Nat → Nat → Int) (ea sa ha fa : Option Addr) (ec sc hc fc : Nat) (W : World)
set_option maxRecDepth 100000 in
set_option maxHeartbeats 8000000 in
theorem validRelease_ok (he : IntsAt W ea east) (hs : SvsAt W sa svs) (hk : checkE north cols east lofts svs wrong = 0) (hr : RelOk cols east.length bx bY sl sh lw lg lh hours dark n h) (hH : RowAt W ha n 2 h) :
    Calls Try.prog 86 #[.agg #[.int .i64 north, .int .i64 cols, .slice ea east.length ec, .int .i64 lofts, .slice sa svs.length sc, .int .i64 wrong, .int .i64 bx, .int .i64 bY, .slice ha n hc, .int .i64 sl, .int .i64 sh, .slice fa k fc, .int .i64 lw, .int .i64 lg, .int .i64 lh, .int .i64 hours, .int .i64 dark]] W fun e w' => e = .returned (.bool true) ∧ G W w' := by
  have hvb := vm_bounds (checkE_ok hk)
  have hl2 := (checkE_zero hk).2.1
  have hn6 : ¬ (6 : Int) < n := by have := hr.many; omega
  have hn6' : (n : Int) ≤ 6 := by have := hr.many; omega
  have hK := fun (W' : World) (hW : G W W') => Check_any north cols lofts wrong east svs ea sa ec sc W' (he.below hW) (hs.below hW) (by omega) (by omega)
  rw [hk] at hK
  have hP := fun (W : World) => lPlace_any north cols lofts wrong bx bY ea east.length ec (.slice sa svs.length sc) W (by omega) (by omega)
  rw [hr.base] at hP
  have hS := fun (W : World) => lSpan_any sl sh 1 3000000 W
  rw [hr.speed] at hS
  have hU1 := fun (W : World) => lUpTo_any lw 999 W
  rw [hr.wind] at hU1
  have hU2 := fun (W : World) => lUpTo_any lg 999 W
  rw [hr.sight] at hU2
  have hU3 := fun (W : World) => lUpTo_any lh 999 W
  rw [hr.heat] at hU3
  have hI := fun (W : World) => lIn_any hours 1 12 W
  rw [hr.hrs] at hI
  have hM := fun (W : World) => lMinute_any dark W
  rw [hr.drk] at hM
  have hCT := fun (W' : World) (hW : G W W') (B : Nat) (hB : Blk W' B 35 #[.int .i64 north, .int .i64 cols, .slice ea east.length ec, .int .i64 lofts, .slice sa svs.length sc, .int .i64 wrong, .int .i64 bx, .int .i64 bY, .slice ha n hc, .int .i64 sl, .int .i64 sh, .slice fa k fc, .int .i64 lw, .int .i64 lg, .int .i64 lh, .int .i64 hours, .int .i64 dark]) => CtPoint_none 110 (enters_of Try.func110 (by kernel_rfl) rfl) #[.pointer (some ⟨B, 0, none⟩)] W' ha hc n h (by have := hr.many; omega) (hH.below hW)
    (fun W2 hW2 i hi => clos76_any north cols lofts wrong bx bY sl sh lw lg lh hours dark ea east.length ec (.slice sa svs.length sc) (.slice ha n hc) (.slice fa k fc) B (h i 0) (h i 1) W2 (hB.keep hW2) (by omega) (by omega) (hr.homes i hi))
  have HK := Lib.hid hK
  have HP := Lib.hid hP
  have HS := Lib.hid hS
  have HU1 := Lib.hid hU1
  have HU2 := Lib.hid hU2
  have HU3 := Lib.hid hU3
  have HI := Lib.hid hI
  have HM := Lib.hid hM
  have HCT := Lib.hid hCT
  clear hK hP hS hU1 hU2 hU3 hI hM hCT hk hvb hl2 hr hH he hs
  have g0 : G W (W.alloc (.cells #[.int .i64 north, .int .i64 cols, .slice ea east.length ec, .int .i64 lofts, .slice sa svs.length sc, .int .i64 wrong, .int .i64 bx, .int .i64 bY, .slice ha n hc, .int .i64 sl, .int .i64 sh, .slice fa k fc, .int .i64 lw, .int .i64 lg, .int .i64 lh, .int .i64 hours, .int .i64 dark] 35)) := (G.rf _).a _
  have b0 := Blk.new W 35 #[.int .i64 north, .int .i64 cols, .slice ea east.length ec, .int .i64 lofts, .slice sa svs.length sc, .int .i64 wrong, .int .i64 bx, .int .i64 bY, .slice ha n hc, .int .i64 sl, .int .i64 sh, .slice fa k fc, .int .i64 lw, .int .i64 lg, .int .i64 lh, .int .i64 hours, .int .i64 dark]
  have m0 := b0.cell 0; have m1 := b0.cell 1; have m2 := b0.cell 2; have m3 := b0.cell 3; have m4 := b0.cell 4; have m5 := b0.cell 5; have m6 := b0.cell 6; have m7 := b0.cell 7; have m8 := b0.cell 8; have m9 := b0.cell 9; have m10 := b0.cell 10; have m11 := b0.cell 11; have m12 := b0.cell 12; have m13 := b0.cell 13; have m14 := b0.cell 14; have m15 := b0.cell 15; have m16 := b0.cell 16; have lM := b0.lt
  go_enter Try.func86, Try.ntmps86
  go_wp2_with (first | (go_at_call 38; refine (HK.out _ g0).mono ?_; rintro e w1 ⟨rfl, hG1⟩; clear m0 m1 m2 m3 m4 m5 m6 m7 m8 m9 m10 m11 m12 m13 m14 m15 m16 lM; replace b0 := b0.keep hG1; replace g0 := g0.t hG1; clear hG1; have m0 := b0.cell 0; have m1 := b0.cell 1; have m2 := b0.cell 2; have m3 := b0.cell 3; have m4 := b0.cell 4; have m5 := b0.cell 5; have m6 := b0.cell 6; have m7 := b0.cell 7; have m8 := b0.cell 8; have m9 := b0.cell 9; have m10 := b0.cell 10; have m11 := b0.cell 11; have m12 := b0.cell 12; have m13 := b0.cell 13; have m14 := b0.cell 14; have m15 := b0.cell 15; have m16 := b0.cell 16; have lM := b0.lt) | (go_at_call 44; refine (HP.out _).mono ?_; rintro e w1 ⟨rfl, hG1⟩; clear m0 m1 m2 m3 m4 m5 m6 m7 m8 m9 m10 m11 m12 m13 m14 m15 m16 lM; replace b0 := b0.keep hG1; replace g0 := g0.t hG1; clear hG1; have m0 := b0.cell 0; have m1 := b0.cell 1; have m2 := b0.cell 2; have m3 := b0.cell 3; have m4 := b0.cell 4; have m5 := b0.cell 5; have m6 := b0.cell 6; have m7 := b0.cell 7; have m8 := b0.cell 8; have m9 := b0.cell 9; have m10 := b0.cell 10; have m11 := b0.cell 11; have m12 := b0.cell 12; have m13 := b0.cell 13; have m14 := b0.cell 14; have m15 := b0.cell 15; have m16 := b0.cell 16; have lM := b0.lt) | (go_at_call 109; refine (HCT.out _ g0 _ b0).mono ?_; rintro e w1 ⟨rfl, hG1⟩; clear m0 m1 m2 m3 m4 m5 m6 m7 m8 m9 m10 m11 m12 m13 m14 m15 m16 lM; replace b0 := b0.keep hG1; replace g0 := g0.t hG1; clear hG1; have m0 := b0.cell 0; have m1 := b0.cell 1; have m2 := b0.cell 2; have m3 := b0.cell 3; have m4 := b0.cell 4; have m5 := b0.cell 5; have m6 := b0.cell 6; have m7 := b0.cell 7; have m8 := b0.cell 8; have m9 := b0.cell 9; have m10 := b0.cell 10; have m11 := b0.cell 11; have m12 := b0.cell 12; have m13 := b0.cell 13; have m14 := b0.cell 14; have m15 := b0.cell 15; have m16 := b0.cell 16; have lM := b0.lt) | (go_at_call 83; refine (HS.out _).mono ?_; rintro e w1 ⟨rfl, hG1⟩; clear m0 m1 m2 m3 m4 m5 m6 m7 m8 m9 m10 m11 m12 m13 m14 m15 m16 lM; replace b0 := b0.keep hG1; replace g0 := g0.t hG1; clear hG1; have m0 := b0.cell 0; have m1 := b0.cell 1; have m2 := b0.cell 2; have m3 := b0.cell 3; have m4 := b0.cell 4; have m5 := b0.cell 5; have m6 := b0.cell 6; have m7 := b0.cell 7; have m8 := b0.cell 8; have m9 := b0.cell 9; have m10 := b0.cell 10; have m11 := b0.cell 11; have m12 := b0.cell 12; have m13 := b0.cell 13; have m14 := b0.cell 14; have m15 := b0.cell 15; have m16 := b0.cell 16; have lM := b0.lt) | (go_at_call 45; refine (HU1.out _).mono ?_; rintro e w1 ⟨rfl, hG1⟩; clear HU1; clear m0 m1 m2 m3 m4 m5 m6 m7 m8 m9 m10 m11 m12 m13 m14 m15 m16 lM; replace b0 := b0.keep hG1; replace g0 := g0.t hG1; clear hG1; have m0 := b0.cell 0; have m1 := b0.cell 1; have m2 := b0.cell 2; have m3 := b0.cell 3; have m4 := b0.cell 4; have m5 := b0.cell 5; have m6 := b0.cell 6; have m7 := b0.cell 7; have m8 := b0.cell 8; have m9 := b0.cell 9; have m10 := b0.cell 10; have m11 := b0.cell 11; have m12 := b0.cell 12; have m13 := b0.cell 13; have m14 := b0.cell 14; have m15 := b0.cell 15; have m16 := b0.cell 16; have lM := b0.lt) | (go_at_call 45; refine (HU2.out _).mono ?_; rintro e w1 ⟨rfl, hG1⟩; clear HU2; clear m0 m1 m2 m3 m4 m5 m6 m7 m8 m9 m10 m11 m12 m13 m14 m15 m16 lM; replace b0 := b0.keep hG1; replace g0 := g0.t hG1; clear hG1; have m0 := b0.cell 0; have m1 := b0.cell 1; have m2 := b0.cell 2; have m3 := b0.cell 3; have m4 := b0.cell 4; have m5 := b0.cell 5; have m6 := b0.cell 6; have m7 := b0.cell 7; have m8 := b0.cell 8; have m9 := b0.cell 9; have m10 := b0.cell 10; have m11 := b0.cell 11; have m12 := b0.cell 12; have m13 := b0.cell 13; have m14 := b0.cell 14; have m15 := b0.cell 15; have m16 := b0.cell 16; have lM := b0.lt) | (go_at_call 45; refine (HU3.out _).mono ?_; rintro e w1 ⟨rfl, hG1⟩; clear HU3; clear m0 m1 m2 m3 m4 m5 m6 m7 m8 m9 m10 m11 m12 m13 m14 m15 m16 lM; replace b0 := b0.keep hG1; replace g0 := g0.t hG1; clear hG1; have m0 := b0.cell 0; have m1 := b0.cell 1; have m2 := b0.cell 2; have m3 := b0.cell 3; have m4 := b0.cell 4; have m5 := b0.cell 5; have m6 := b0.cell 6; have m7 := b0.cell 7; have m8 := b0.cell 8; have m9 := b0.cell 9; have m10 := b0.cell 10; have m11 := b0.cell 11; have m12 := b0.cell 12; have m13 := b0.cell 13; have m14 := b0.cell 14; have m15 := b0.cell 15; have m16 := b0.cell 16; have lM := b0.lt) | (go_at_call 74; refine (HI.out _).mono ?_; rintro e w1 ⟨rfl, hG1⟩; clear m0 m1 m2 m3 m4 m5 m6 m7 m8 m9 m10 m11 m12 m13 m14 m15 m16 lM; replace b0 := b0.keep hG1; replace g0 := g0.t hG1; clear hG1; have m0 := b0.cell 0; have m1 := b0.cell 1; have m2 := b0.cell 2; have m3 := b0.cell 3; have m4 := b0.cell 4; have m5 := b0.cell 5; have m6 := b0.cell 6; have m7 := b0.cell 7; have m8 := b0.cell 8; have m9 := b0.cell 9; have m10 := b0.cell 10; have m11 := b0.cell 11; have m12 := b0.cell 12; have m13 := b0.cell 13; have m14 := b0.cell 14; have m15 := b0.cell 15; have m16 := b0.cell 16; have lM := b0.lt) | (go_at_call 35; refine (HM.out _).mono ?_; rintro e w2 ⟨rfl, hG1⟩; clear m0 m1 m2 m3 m4 m5 m6 m7 m8 m9 m10 m11 m12 m13 m14 m15 m16 lM; replace b0 := b0.keep hG1; replace g0 := g0.t hG1; clear hG1))
  go_ret
  exact ⟨rfl, g0⟩
end
end Go.Proofs.Ytcekdljjmfkacaa
