import Derived.Test.YtpjfdfddcnocpaaTm
import Derived.Deep.Cut
set_option linter.unusedSimpArgs false
set_option linter.unusedVariables false
namespace Go.Proofs.Ytpjfdfddcnocpaa
open Go.RowKit
attribute [local go_sem] Oper.semAt_some

section
variable (north wrong r rc px py qx qy : Int) (cols lofts o a b xo yo xa ya xb yb bt off : Nat) (east : List Int) (svs : List Sv) (l : List (Int × Int)) (ea sa : Option Addr) (ec sc tc : Nat) (w : World)
abbrev TruthGoalN : Prop := Calls Try.prog 4 #[.agg #[.int .i64 north, .int .i64 cols, .slice ea east.length ec, .int .i64 lofts, .slice sa svs.length sc, .int .i64 wrong], .slice (some ⟨bt, off, none⟩) lofts tc, .agg #[.int .i64 o, .int .i64 a, .int .i64 b, .int .i64 r, .int .i64 rc, .int .i64 px, .int .i64 py, .int .i64 qx, .int .i64 qy]] w fun e w' => e = .returned (.bool true) ∧ G w w'
/-- the contracts that the law runs over -/
structure TruthC (np : Nat) (P : List (Nat × Nat)) (lo hi nn : Int → Nat) (n0 : Nat) (nv : Int) (A B : List Nat) : Prop where
  hV : ∀ W, G w W → Calls Try.prog 19 #[.agg #[.int .i64 north, .int .i64 cols, .slice ea east.length ec, .int .i64 lofts, .slice sa svs.length sc, .int .i64 wrong]] W fun e w' => e = .returned (.bool true) ∧ G W w'
  hI : ∀ W, G w W → Calls Try.prog 20 #[.agg #[.int .i64 north, .int .i64 cols, .slice ea east.length ec, .int .i64 lofts, .slice sa svs.length sc, .int .i64 wrong], .slice (some ⟨bt, off, none⟩) lofts tc] W fun e w' => e = .returned (.bool true) ∧ G W w'
  hP : ∀ W, G w W → Calls Try.prog 22 #[.agg #[.int .i64 north, .int .i64 cols, .slice ea east.length ec, .int .i64 lofts, .slice sa svs.length sc, .int .i64 wrong], .int .i64 a] W fun e w' => (∃ g cap, e = .returned (.tuple #[.slice (some ⟨g, 0, none⟩) P.length cap, .int .i64 0]) ∧ g < w'.heap.size ∧ PtsAt w' g P) ∧ G W w'
  hD : ∀ W, G w W → ∀ k : Int, 0 ≤ k → k ≤ 2 → Calls Try.prog 24 #[.agg #[.int .i64 north, .int .i64 cols, .slice ea east.length ec, .int .i64 lofts, .slice sa svs.length sc, .int .i64 wrong], .int .i64 a, .int .i64 b, .int .i64 k] W fun e w' => e = .returned (.tuple #[.agg #[.int .i64 (lo k : Nat), .int .i64 (hi k : Nat)], .int .i64 0]) ∧ G W w'
  hL : ∀ W, G w W → ∀ k : Int, 0 ≤ k → k ≤ 2 → Calls Try.prog 17 #[.agg #[.int .i64 north, .int .i64 cols, .slice ea east.length ec, .int .i64 lofts, .slice sa svs.length sc, .int .i64 wrong], .agg #[.int .i64 xa, .int .i64 ya], .agg #[.int .i64 xb, .int .i64 yb], .int .i64 k] W fun e w' => e = .returned (.tuple #[.int .i64 (nn k : Nat), .int .i64 0]) ∧ G W w'
  hL0 : ∀ W, G w W → Calls Try.prog 17 #[.agg #[.int .i64 north, .int .i64 cols, .slice ea east.length ec, .int .i64 lofts, .slice sa svs.length sc, .int .i64 wrong], .agg #[.int .i64 xo, .int .i64 yo], .agg #[.int .i64 xa, .int .i64 ya], .int .i64 0] W fun e w' => e = .returned (.tuple #[.int .i64 n0, .int .i64 0]) ∧ G W w'
  hS : ∀ W, G w W → ∀ x y x' y' : Nat, x < cols → y < east.length → x' < cols → y' < east.length → Calls Try.prog 18 #[.agg #[.int .i64 north, .int .i64 cols, .slice ea east.length ec, .int .i64 lofts, .slice sa svs.length sc, .int .i64 wrong], .agg #[.int .i64 x, .int .i64 y], .agg #[.int .i64 x', .int .i64 y']] W fun e w' => e = .returned (.int .i64 (sqI north east x y x' y')) ∧ G W w'
  hN : ∀ W, G w W → Calls Try.prog 25 #[.agg #[.int .i64 north, .int .i64 cols, .slice ea east.length ec, .int .i64 lofts, .slice sa svs.length sc, .int .i64 wrong], .int .i64 o, .int .i64 a, .int .i64 b] W fun e w' => e = .returned (.tuple #[.int .i64 nv, .int .i64 0]) ∧ G W w'
  hW : ∀ W, G w W → Calls Try.prog 26 #[.agg #[.int .i64 north, .int .i64 cols, .slice ea east.length ec, .int .i64 lofts, .slice sa svs.length sc, .int .i64 wrong], .int .i64 o, .int .i64 rc] W (WithinPost W A B)
  hct : ∀ W, G w W → W.cell? ⟨bt, off + o * 2, none⟩ = some (.int .i64 (xo : Nat)) ∧ W.cell? ⟨bt, off + o * 2 + 1, none⟩ = some (.int .i64 (yo : Nat)) ∧ W.cell? ⟨bt, off + a * 2, none⟩ = some (.int .i64 (xa : Nat)) ∧ W.cell? ⟨bt, off + a * 2 + 1, none⟩ = some (.int .i64 (ya : Nat)) ∧ W.cell? ⟨bt, off + b * 2, none⟩ = some (.int .i64 (xb : Nat)) ∧ W.cell? ⟨bt, off + b * 2 + 1, none⟩ = some (.int .i64 (yb : Nat))

set_option maxRecDepth 100000 in
set_option maxHeartbeats 16000000 in
theorem truth_core (P : List (Nat × Nat)) (lo hi nn : Int → Nat) (n0 : Nat) (sp1 sp2 nv : Int) (A B : List Nat) (hC : TruthC north wrong rc cols lofts o a b xo yo xa ya xb yb bt off east svs ea sa ec sc tc w P.length P lo hi nn n0 nv A B) (cxo : xo < cols) (cyo : yo < east.length) (cxa : xa < cols) (cya : ya < east.length) (cxb : xb < cols) (cyb : yb < east.length) (hsp1 : sqI north east xo yo xa ya = sp1) (hsp2 : sqI north east xo yo xb yb = sp2) (hbt : bt < w.heap.size)
    (hPl : P.length ≤ 1000000) (hHas : P.any (isP xa ya) = true) (hlh : ∀ k : Int, 0 ≤ k → k ≤ 2 → lo k ≤ nn k ∧ nn k ≤ hi k) (ho : o < lofts) (ha : a < lofts) (hb : b < lofts) (hl8 : lofts ≤ 8) (hr : ¬ rc < 0) (hr2 : ¬ 100000000 < rc)
    (hnv : (nv = 1 ∧ sp1 < sp2) ∨ (nv = 2 ∧ sp2 < sp1) ∨ (nv = 3 ∧ sp1 = sp2) ∨ nv = 4) (hAB : A.length + B.length ≤ lofts)
    (hfin : o = a ∨ ((n0 : Int) ≤ rc ∧ a ∈ A) ∨ ((n0 : Int) ≤ rc ∧ a ∉ A ∧ a ∈ B) ∨ (¬ (n0 : Int) ≤ rc ∧ a ∉ A)) :
    TruthGoalN north wrong r rc px py qx qy cols lofts o a b bt off east svs ea sa ec sc tc w := by
  obtain ⟨g0, b0, b2⟩ := w2_spec w #[.int .i64 north, .int .i64 cols, .slice ea east.length ec, .int .i64 lofts, .slice sa svs.length sc, .int .i64 wrong] #[.int .i64 o, .int .i64 a, .int .i64 b, .int .i64 r, .int .i64 rc, .int .i64 px, .int .i64 py, .int .i64 qx, .int .i64 qy] 25 38
  have HC := Lib.hid hC
  have HCT := Lib.hid hC.hct
  have HHas := Lib.hid hHas
  have HLH := Lib.hid hlh
  have HNV := Lib.hid hnv
  have HFIN := Lib.hid hfin
  clear hC hHas hlh hnv hfin
  have q0 : (decide (0 ≤ (o : Int)) && decide ((o : Int) < lofts)) = true := by simp; omega
  have q1 : (decide (0 ≤ (a : Int)) && decide ((a : Int) < lofts)) = true := by simp; omega
  have q2 : (decide (0 ≤ (b : Int)) && decide ((b : Int) < lofts)) = true := by simp; omega
  have z0 : (o : Int) < lofts := by omega
  have z1 : (a : Int) < lofts := by omega
  have z2 : (b : Int) < lofts := by omega
  unfold TruthGoalN
  go_enter Try.func4, Try.ntmps4
  go_wp2_with (first | (go_at_call 19; refine (HC.out.hV _ g0).mono ?_; rintro e w1 ⟨rfl, hG1⟩; replace b0 := b0.keep hG1; replace b2 := b2.keep hG1; replace g0 := g0.t hG1; clear hG1; have m0 := b0.cell 0; have m1 := b0.cell 1; have m2 := b0.cell 2; have m3 := b0.cell 3; have m4 := b0.cell 4; have m5 := b0.cell 5; have a0 := b2.cell 0; have a1 := b2.cell 1; have a2 := b2.cell 2; have a4 := b2.cell 4; have lM := b0.lt; have lA := b2.lt; obtain ⟨t0, t1, t2, t3, t4, t5⟩ := HCT.out _ g0; have lT := Nat.lt_of_lt_of_le hbt g0.size) | (go_at_call 20; refine (HC.out.hI _ g0).mono ?_; rintro e w1 ⟨rfl, hG1⟩; clear m0 m1 m2 m3 m4 m5 a0 a1 a2 a4 lM lA t0 t1 t2 t3 t4 t5 lT; replace b0 := b0.keep hG1; replace b2 := b2.keep hG1; replace g0 := g0.t hG1; clear hG1; have m0 := b0.cell 0; have m1 := b0.cell 1; have m2 := b0.cell 2; have m3 := b0.cell 3; have m4 := b0.cell 4; have m5 := b0.cell 5; have a0 := b2.cell 0; have a1 := b2.cell 1; have a2 := b2.cell 2; have a4 := b2.cell 4; have lM := b0.lt; have lA := b2.lt; obtain ⟨t0, t1, t2, t3, t4, t5⟩ := HCT.out _ g0; have lT := Nat.lt_of_lt_of_le hbt g0.size) | (go_at_call 21; refine (lawLoft_any _ _ _ _ _ _ _ _).mono ?_; rintro e w1 ⟨rfl, hG1⟩; clear m0 m1 m2 m3 m4 m5 a0 a1 a2 a4 lM lA t0 t1 t2 t3 t4 t5 lT; replace b0 := b0.keep hG1; replace b2 := b2.keep hG1; replace g0 := g0.t hG1; clear hG1; have m0 := b0.cell 0; have m1 := b0.cell 1; have m2 := b0.cell 2; have m3 := b0.cell 3; have m4 := b0.cell 4; have m5 := b0.cell 5; have a0 := b2.cell 0; have a1 := b2.cell 1; have a2 := b2.cell 2; have a4 := b2.cell 4; have lM := b0.lt; have lA := b2.lt; obtain ⟨t0, t1, t2, t3, t4, t5⟩ := HCT.out _ g0; have lT := Nat.lt_of_lt_of_le hbt g0.size) | (go_at_call 22; refine (HC.out.hP _ g0).mono ?_; rintro e w1 ⟨⟨gP, capP, rfl, hgP, hPts⟩, hG1⟩; clear m0 m1 m2 m3 m4 m5 a0 a1 a2 a4 lM lA t0 t1 t2 t3 t4 t5 lT; replace b0 := b0.keep hG1; replace b2 := b2.keep hG1; replace g0 := g0.t hG1; clear hG1; have HPts := Lib.hid hPts; clear hPts; have m0 := b0.cell 0; have m1 := b0.cell 1; have m2 := b0.cell 2; have m3 := b0.cell 3; have m4 := b0.cell 4; have m5 := b0.cell 5; have a0 := b2.cell 0; have a1 := b2.cell 1; have a2 := b2.cell 2; have a4 := b2.cell 4; have lM := b0.lt; have lA := b2.lt; obtain ⟨t0, t1, t2, t3, t4, t5⟩ := HCT.out _ g0; have lT := Nat.lt_of_lt_of_le hbt g0.size) | (go_at_call 23; refine (has_any gP capP P xa ya _ hgP HPts.out hPl).mono ?_; rw [HHas.out]; rintro e w1 ⟨rfl, hG1⟩; clear m0 m1 m2 m3 m4 m5 a0 a1 a2 a4 lM lA t0 t1 t2 t3 t4 t5 lT; replace b0 := b0.keep hG1; replace b2 := b2.keep hG1; replace g0 := g0.t hG1; clear hG1 HPts hgP; have m0 := b0.cell 0; have m1 := b0.cell 1; have m2 := b0.cell 2; have m3 := b0.cell 3; have m4 := b0.cell 4; have m5 := b0.cell 5; have a0 := b2.cell 0; have a1 := b2.cell 1; have a2 := b2.cell 2; have a4 := b2.cell 4; have lM := b0.lt; have lA := b2.lt; obtain ⟨t0, t1, t2, t3, t4, t5⟩ := HCT.out _ g0; have lT := Nat.lt_of_lt_of_le hbt g0.size))
  clear m0 m1 m2 m3 m4 m5 a0 a1 a2 a4 lM lA t0 t1 t2 t3 t4 t5 lT
  go_loopw [9] (fun i wr => ∃ k : Nat, k ≤ 3 ∧ i = .int .i64 k ∧ G w1 wr) (fun i _ => 3 - (intOf i).toNat)
  case atStart => exact ⟨0, by omega, rfl, G.rf _⟩
  case round =>
    obtain ⟨k, hk, rfl, hGr⟩ := hrel
    replace b0 := b0.keep hGr
    replace b2 := b2.keep hGr
    replace g0 := g0.t hGr
    by_cases hlt : k < 3
    · have hki : (k : Int) ≤ 2 := by omega
      have m0 := b0.cell 0; have m1 := b0.cell 1; have m2 := b0.cell 2; have m3 := b0.cell 3; have m4 := b0.cell 4; have m5 := b0.cell 5; have a0 := b2.cell 0; have a1 := b2.cell 1; have a2 := b2.cell 2; have a4 := b2.cell 4; have lM := b0.lt; have lA := b2.lt; obtain ⟨t0, t1, t2, t3, t4, t5⟩ := HCT.out _ g0; have lT := Nat.lt_of_lt_of_le hbt g0.size
      obtain ⟨hlo, hhi⟩ := HLH.out k (by omega) hki
      go_wp2_with (first | (go_at_call 24; refine (HC.out.hD _ g0 k (by omega) (by omega)).mono ?_; rintro e w3 ⟨rfl, hG1⟩; clear m0 m1 m2 m3 m4 m5 a0 a1 a2 a4 lM lA t0 t1 t2 t3 t4 t5 lT; replace b0 := b0.keep hG1; replace b2 := b2.keep hG1; replace g0 := g0.t hG1))
      obtain ⟨W3, hW3⟩ : ∃ W3, W3 = w3.alloc (.cells #[.int .i64 (lo k : Nat), .int .i64 (hi k : Nat)] 46) := ⟨_, rfl⟩
      have k46 : Blk W3 w3.heap.size 46 #[.int .i64 (lo k : Nat), .int .i64 (hi k : Nat)] := by rw [hW3]; exact Blk.new _ _ _
      have g3 : G w3 W3 := by rw [hW3]; exact (G.rf _).a _
      replace b0 := b0.keep g3
      replace b2 := b2.keep g3
      replace g0 := g0.t g3
      have hGr3 := (hGr.t hG1).t g3
      rw [← hW3]
      clear hW3 g3 hG1
      have m0 := b0.gw 0 rfl
      have m1 := b0.gw 1 rfl
      have m2 := b0.gw 2 rfl
      have m3 := b0.gw 3 rfl
      have m4 := b0.gw 4 rfl
      have m5 := b0.gw 5 rfl
      have a0 := b2.gw 0 rfl
      have a1 := b2.gw 1 rfl
      have a2 := b2.gw 2 rfl
      have a4 := b2.gw 4 rfl
      obtain ⟨t0, t1, t2, t3, t4, t5⟩ := HCT.out _ g0
      have lT := Nat.lt_of_lt_of_le hbt g0.size
      replace t0 := GW.cell t0 lT
      replace t1 := GW.cell t1 lT
      replace t2 := GW.cell t2 lT
      replace t3 := GW.cell t3 lT
      replace t4 := GW.cell t4 lT
      replace t5 := GW.cell t5 lT
      refine wp_region_quiet_G (by kernel_rfl) (by kernel_rfl) ?_
      repeat (quiet_step (first | (go_at_call 17; exact Calls.gq (HC.out.hL _ (g0.t (GW.g _)) k (by omega) (by omega)))))
      refine wpQuiet_nil ?_
      intro _ hw'
      obtain ⟨y, rfl⟩ := hw'
      clear m0 m1 m2 m3 m4 m5 a0 a1 a2 a4 t0 t1 t2 t3 t4 t5 lT
      replace b0 := b0.keep y.g
      replace b2 := b2.keep y.g
      replace g0 := g0.t y.g
      replace k46 := k46.keep y.g
      have hGr4 := hGr3.t y.g
      have a1 := b2.cell 1
      have a2 := b2.cell 2
      have s0 := k46.cell 0
      have s1 := k46.cell 1
      have lA := b2.lt
      have l46 := k46.lt
      have u1 : ¬ (nn k : Int) < lo k := by omega
      have u2 : ¬ (nn k : Int) > hi k := by omega
      have u3 : ¬ (hi k : Int) < nn k := by omega
      by_cases hab : a = b
      · have habI : (a : Int) = b := by omega
        go_wp2
        go_roundw
        case rel => exact ⟨k + 1, by omega, by go_num, hGr4⟩
        case measure => simp [intOf]; omega
      · have habI : ¬ (a : Int) = b := by omega
        go_wp2
        go_roundw
        case rel => exact ⟨k + 1, by omega, by go_num, hGr4⟩
        case measure => simp [intOf]; omega
    · have hki : ¬ (k : Int) ≤ 2 := by omega
      clear HLH HHas
      go_wp2
      have m0 := b0.gw 0 rfl
      have m1 := b0.gw 1 rfl
      have m2 := b0.gw 2 rfl
      have m3 := b0.gw 3 rfl
      have m4 := b0.gw 4 rfl
      have m5 := b0.gw 5 rfl
      have a0 := b2.gw 0 rfl
      have a1 := b2.gw 1 rfl
      have a2 := b2.gw 2 rfl
      have a4 := b2.gw 4 rfl
      obtain ⟨t0, t1, t2, t3, t4, t5⟩ := HCT.out _ g0
      have lT := Nat.lt_of_lt_of_le hbt g0.size
      replace t0 := GW.cell t0 lT
      replace t1 := GW.cell t1 lT
      replace t2 := GW.cell t2 lT
      replace t3 := GW.cell t3 lT
      replace t4 := GW.cell t4 lT
      replace t5 := GW.cell t5 lT
      refine wp_region_quiet_G (by kernel_rfl) (by kernel_rfl) ?_
      repeat (quiet_step (first | (go_at_call 18; exact Calls.gq (HC.out.hS _ (g0.t (GW.g _)) _ _ _ _ (by assumption) (by assumption) (by assumption) (by assumption)))))
      refine wpQuiet_nil ?_
      intro _ hw'
      obtain ⟨y, rfl⟩ := hw'
      clear m0 m1 m2 m3 m4 m5 a0 a1 a2 a4 t0 t1 t2 t3 t4 t5 lT
      replace b0 := b0.keep y.g
      replace b2 := b2.keep y.g
      replace g0 := g0.t y.g
      have m0 := b0.cell 0; have m1 := b0.cell 1; have m2 := b0.cell 2; have m3 := b0.cell 3; have m4 := b0.cell 4; have m5 := b0.cell 5; have a0 := b2.cell 0; have a1 := b2.cell 1; have a2 := b2.cell 2; have a4 := b2.cell 4; have lM := b0.lt; have lA := b2.lt; obtain ⟨t0, t1, t2, t3, t4, t5⟩ := HCT.out _ g0; have lT := Nat.lt_of_lt_of_le hbt g0.size
      clear hsp1 hsp2
      rcases HNV.out with ⟨rfl, t⟩ | ⟨rfl, t⟩ | ⟨rfl, t⟩ | rfl
      all_goals
        first | (have t6 : ¬ sp2 ≤ sp1 := by omega) | (have t6 : ¬ sp1 ≤ sp2 := by omega) | skip
        clear HNV
        go_wp2_with (first | (go_at_call 25; refine (HC.out.hN _ g0).mono ?_; rintro e w4 ⟨rfl, hG1⟩; clear m0 m1 m2 m3 m4 m5 a0 a1 a2 a4 lM lA t0 t1 t2 t3 t4 t5 lT; replace b0 := b0.keep hG1; replace b2 := b2.keep hG1; replace g0 := g0.t hG1; clear hG1; have m0 := b0.cell 0; have m1 := b0.cell 1; have m2 := b0.cell 2; have m3 := b0.cell 3; have m4 := b0.cell 4; have m5 := b0.cell 5; have a0 := b2.cell 0; have a1 := b2.cell 1; have a2 := b2.cell 2; have a4 := b2.cell 4; have lM := b0.lt; have lA := b2.lt; obtain ⟨t0, t1, t2, t3, t4, t5⟩ := HCT.out _ g0; have lT := Nat.lt_of_lt_of_le hbt g0.size) | (go_at_call 26; refine (HC.out.hW _ g0).mono ?_; rintro e w5 ⟨v1, v2, rfl, o1, o2, hG1⟩; obtain ⟨aA, cA, LA, rfl, iA, nA, mA⟩ := ints_own4 rfl o1; obtain ⟨aB, cB, LB, rfl, iB, nB, mB⟩ := ints_own4 rfl o2; have HMA := Lib.hid (mA a); have HMB := Lib.hid (mB a); have HNA := Lib.hid nA; have HNB := Lib.hid nB; clear o1 o2 mA mB nA nB; clear m0 m1 m2 m3 m4 m5 a0 a1 a2 a4 lM lA t0 t1 t2 t3 t4 t5 lT; replace b0 := b0.keep hG1; replace b2 := b2.keep hG1; replace g0 := g0.t hG1; clear hG1; have m0 := b0.cell 0; have m1 := b0.cell 1; have m2 := b0.cell 2; have m3 := b0.cell 3; have m4 := b0.cell 4; have m5 := b0.cell 5; have a0 := b2.cell 0; have a1 := b2.cell 1; have a2 := b2.cell 2; have a4 := b2.cell 4; have lM := b0.lt; have lA := b2.lt; obtain ⟨t0, t1, t2, t3, t4, t5⟩ := HCT.out _ g0; have lT := Nat.lt_of_lt_of_le hbt g0.size))
        have m0 := b0.gw 0 rfl
        have m1 := b0.gw 1 rfl
        have m2 := b0.gw 2 rfl
        have m3 := b0.gw 3 rfl
        have m4 := b0.gw 4 rfl
        have m5 := b0.gw 5 rfl
        have a0 := b2.gw 0 rfl
        have a1 := b2.gw 1 rfl
        have a2 := b2.gw 2 rfl
        have a4 := b2.gw 4 rfl
        obtain ⟨t0, t1, t2, t3, t4, t5⟩ := HCT.out _ g0
        have lT := Nat.lt_of_lt_of_le hbt g0.size
        replace t0 := GW.cell t0 lT
        replace t1 := GW.cell t1 lT
        replace t2 := GW.cell t2 lT
        replace t3 := GW.cell t3 lT
        replace t4 := GW.cell t4 lT
        replace t5 := GW.cell t5 lT
        refine wp_region_quiet_G (by kernel_rfl) (by kernel_rfl) ?_
        repeat (quiet_step (first | (go_at_call 17; exact Calls.gq (HC.out.hL0 _ (g0.t (GW.g _))))))
        refine wpQuiet_nil ?_
        intro _ hw'
        obtain ⟨y, rfl⟩ := hw'
        clear m0 m1 m2 m3 m4 m5 a0 a1 a2 a4 t0 t1 t2 t3 t4 t5 lT
        replace b0 := b0.keep y.g
        replace b2 := b2.keep y.g
        replace g0 := g0.t y.g
        replace iA := iA.below y.g
        replace iB := iB.below y.g
        have m3 := b0.cell 3
        have a0 := b2.cell 0
        have a1 := b2.cell 1
        have a4 := b2.cell 4
        have lM := b0.lt
        have lA := b2.lt
        have e4 : LA.length + LB.length ≤ lofts := by have h1 := HNA.out; have h2 := HNB.out; omega
        have e1 : IntKind.i64.wrap ((LA.length : Int) + LB.length) = (LA.length : Int) + LB.length := IntWalk.i64_in _ (by omega)
        have e2 : ¬ (LA.length : Int) + LB.length > lofts := by omega
        have e3 : ¬ (lofts : Int) < (LA.length : Int) + LB.length := by omega
        have lA1 : LA.length ≤ 1000000 := by omega
        have lB1 : LB.length ≤ 1000000 := by omega
        by_cases hoa : o = a
        · have hoaI : ((a : Int) == o) = true := by simp; omega
          have hoaJ : (a : Int) = o := by omega
          clear HFIN
          go_wp2_with (first | (go_at_call 16; refine (works_any _).mono ?_; rintro e w2 ⟨rfl, hG2⟩))
          go_ret
          exact ⟨rfl, g0.t hG2⟩
        · have hoaI : ((a : Int) == o) = false := by simp; omega
          have hoaJ : ¬ (a : Int) = o := by omega
          rcases HFIN.out with h | ⟨h1, h2⟩ | ⟨h1, h2, h3⟩ | ⟨h1, h2⟩
          · exact absurd h hoa
          · have d1 : ¬ (n0 : Int) > rc := by omega
            have d2 : ¬ rc < (n0 : Int) := by omega
            have hA : LA.any (· == (a : Int)) = true := by rw [HMA.out]; simpa using h2
            have HAA := Lib.hid hA
            clear HFIN hA
            go_wp2_with (first | (go_at_call 27; refine (in_any aA LA cA _ _ iA lA1).mono ?_; rw [HAA.out]; rintro e w6 ⟨rfl, hG1⟩; clear m3 a0 a1 a4 lM lA; replace b0 := b0.keep hG1; replace b2 := b2.keep hG1; replace g0 := g0.t hG1; replace iA := iA.below hG1; replace iB := iB.below hG1; clear hG1; have m3 := b0.cell 3; have a0 := b2.cell 0; have a1 := b2.cell 1; have a4 := b2.cell 4; have lM := b0.lt; have lA := b2.lt) | (go_at_call 16; refine (works_any _).mono ?_; rintro e w2 ⟨rfl, hG2⟩))
            go_ret
            exact ⟨rfl, g0.t hG2⟩
          · have d1 : ¬ (n0 : Int) > rc := by omega
            have d2 : ¬ rc < (n0 : Int) := by omega
            have hA : LA.any (· == (a : Int)) = false := by rw [HMA.out]; simpa using h2
            have hB : LB.any (· == (a : Int)) = true := by rw [HMB.out]; simpa using h3
            have HAA := Lib.hid hA
            have HBB := Lib.hid hB
            clear HFIN hA hB
            go_wp2_with (first | (go_at_call 27; refine (in_any _ _ _ _ _ (by first | exact iA | exact iB) (by first | exact lA1 | exact lB1)).mono ?_; (first | rw [HAA.out] | rw [HBB.out]); rintro e w6 ⟨rfl, hG1⟩; clear m3 a0 a1 a4 lM lA; replace b0 := b0.keep hG1; replace b2 := b2.keep hG1; replace g0 := g0.t hG1; replace iA := iA.below hG1; replace iB := iB.below hG1; clear hG1; have m3 := b0.cell 3; have a0 := b2.cell 0; have a1 := b2.cell 1; have a4 := b2.cell 4; have lM := b0.lt; have lA := b2.lt) | (go_at_call 16; refine (works_any _).mono ?_; rintro e w2 ⟨rfl, hG2⟩))
            go_ret
            exact ⟨rfl, g0.t hG2⟩
          · have d1 : (n0 : Int) > rc := by omega
            have d2 : rc < (n0 : Int) := by omega
            have hA : LA.any (· == (a : Int)) = false := by rw [HMA.out]; simpa using h2
            have HAA := Lib.hid hA
            clear HFIN hA
            go_wp2_with (first | (go_at_call 27; refine (in_any aA LA cA _ _ iA lA1).mono ?_; rw [HAA.out]; rintro e w6 ⟨rfl, hG1⟩; clear m3 a0 a1 a4 lM lA; replace b0 := b0.keep hG1; replace b2 := b2.keep hG1; replace g0 := g0.t hG1; replace iA := iA.below hG1; replace iB := iB.below hG1; clear hG1; have m3 := b0.cell 3; have a0 := b2.cell 0; have a1 := b2.cell 1; have a4 := b2.cell 4; have lM := b0.lt; have lA := b2.lt) | (go_at_call 16; refine (works_any _).mono ?_; rintro e w2 ⟨rfl, hG2⟩))
            go_ret
            exact ⟨rfl, g0.t hG2⟩
end
end Go.Proofs.Ytpjfdfddcnocpaa
