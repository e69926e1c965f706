import Derived.Test.YtdneehbhncekaaaLt
set_option linter.unusedSimpArgs false
set_option linter.unusedVariables false
namespace Go.Proofs.Ytdneehbhncekaaa
open Go.RowKit
attribute [local go_sem] Oper.semAt_some
def StGoal (north cols lofts wrong A B mi sl sh : Int) (east : List Int) (svs : List Sv) (ea sa : Option Addr) (ec sc : Nat) (w : World) : Prop :=
  Calls Try.prog 3 #[.agg #[.int .i64 north, .int .i64 cols, .slice ea east.length ec, .int .i64 lofts, .slice sa svs.length sc, .int .i64 wrong], .agg #[.int .i64 A, .int .i64 B, .int .i64 mi, .int .i64 sl, .int .i64 sh]] w fun e w' => e = .returned (.bool true) ∧ G w w'
section
variable (north cols lofts wrong A B mi sl sh : Int) (east : List Int) (svs : List Sv) (ea sa : Option Addr) (ec sc : Nat) (w : World)
set_option maxRecDepth 100000 in
set_option maxHeartbeats 4000000 in
theorem st_1 (he : IntsAt w ea east) (hs : SvsAt w sa svs) (hl : east.length ≤ 9223372036854775807) (hl2 : svs.length ≤ 9223372036854775807)  (t1 : farB north cols east lofts svs wrong = true) : StGoal north cols lofts wrong A B mi sl sh east svs ea sa ec sc w := by
  obtain ⟨g0, b0, b1⟩ := w2_spec w #[.int .i64 north, .int .i64 cols, .slice ea east.length ec, .int .i64 lofts, .slice sa svs.length sc, .int .i64 wrong] #[.int .i64 A, .int .i64 B, .int .i64 mi, .int .i64 sl, .int .i64 sh] 25 29
  have HFr := Lib.hid (fun W : World => freed_any W)
  have HF := Lib.hid (fun (W : World) (hW : G w W) => Far_any north cols lofts wrong east svs ea sa ec sc W (he.below hW) (hs.below hW) hl hl2)
  have HC := Lib.hid (fun (W : World) (hW : G w W) => rCheck_any north cols lofts wrong east svs ea sa ec sc W (he.below hW) (hs.below hW) hl hl2)
  rw [t1] at HF
  clear he hs hl hl2 t1
  unfold StGoal
  go_enter Try.func3, Try.ntmps3
  go_wp2_with (first | (go_at_call 4; refine (HF.out _ g0).mono ?_; rintro e w1 ⟨rfl, hG1⟩; replace b0 := b0.keep hG1; replace b1 := b1.keep hG1; have m0 := b0.cell 0; have m1 := b0.cell 1; have m2 := b0.cell 2; have m3 := b0.cell 3; have m4 := b0.cell 4; have m5 := b0.cell 5; have a0 := b1.cell 0; have a1 := b1.cell 1; have a2 := b1.cell 2; have a3 := b1.cell 3; have a4 := b1.cell 4; have lM := b0.lt; have lN := b1.lt; replace g0 := g0.t hG1; clear hG1) | (go_at_call 6; refine (HFr.out _).mono ?_; rintro e w1 ⟨rfl, hG1⟩))
  go_ret
  exact ⟨rfl, g0.t hG1⟩
set_option maxRecDepth 100000 in
set_option maxHeartbeats 4000000 in
theorem st_2 (he : IntsAt w ea east) (hs : SvsAt w sa svs) (hl : east.length ≤ 9223372036854775807) (hl2 : svs.length ≤ 9223372036854775807) (t1 : farB north cols east lofts svs wrong = false) (t2 : checkE north cols east lofts svs wrong ≠ 0) : StGoal north cols lofts wrong A B mi sl sh east svs ea sa ec sc w := by
  obtain ⟨g0, b0, b1⟩ := w2_spec w #[.int .i64 north, .int .i64 cols, .slice ea east.length ec, .int .i64 lofts, .slice sa svs.length sc, .int .i64 wrong] #[.int .i64 A, .int .i64 B, .int .i64 mi, .int .i64 sl, .int .i64 sh] 25 29
  have HFr := Lib.hid (fun W : World => freed_any W)
  have HF := Lib.hid (fun (W : World) (hW : G w W) => Far_any north cols lofts wrong east svs ea sa ec sc W (he.below hW) (hs.below hW) hl hl2)
  have HC := Lib.hid (fun (W : World) (hW : G w W) => rCheck_any north cols lofts wrong east svs ea sa ec sc W (he.below hW) (hs.below hW) hl hl2)
  rw [t1] at HF
  generalize checkE north cols east lofts svs wrong = ce at *
  clear he hs hl hl2 t1
  unfold StGoal
  go_enter Try.func3, Try.ntmps3
  go_wp2_with (first | (go_at_call 4; refine (HF.out _ g0).mono ?_; rintro e w1 ⟨rfl, hG1⟩; replace b0 := b0.keep hG1; replace b1 := b1.keep hG1; have m0 := b0.cell 0; have m1 := b0.cell 1; have m2 := b0.cell 2; have m3 := b0.cell 3; have m4 := b0.cell 4; have m5 := b0.cell 5; have a0 := b1.cell 0; have a1 := b1.cell 1; have a2 := b1.cell 2; have a3 := b1.cell 3; have a4 := b1.cell 4; have lM := b0.lt; have lN := b1.lt; replace g0 := g0.t hG1; clear hG1) | (go_at_call 5; refine (HC.out _ g0).mono ?_; rintro e w1 ⟨rfl, hG1⟩; clear m0 m1 m2 m3 m4 m5 a0 a1 a2 a3 a4 lM lN; replace b0 := b0.keep hG1; replace b1 := b1.keep hG1; have m0 := b0.cell 0; have m1 := b0.cell 1; have m2 := b0.cell 2; have m3 := b0.cell 3; have m4 := b0.cell 4; have m5 := b0.cell 5; have a0 := b1.cell 0; have a1 := b1.cell 1; have a2 := b1.cell 2; have a3 := b1.cell 3; have a4 := b1.cell 4; have lM := b0.lt; have lN := b1.lt; replace g0 := g0.t hG1; clear hG1) | (go_at_call 6; refine (HFr.out _).mono ?_; rintro e w1 ⟨rfl, hG1⟩))
  go_ret
  exact ⟨rfl, g0.t hG1⟩
set_option maxRecDepth 100000 in
set_option maxHeartbeats 4000000 in
theorem st_3 (he : IntsAt w ea east) (hs : SvsAt w sa svs) (hl : east.length ≤ 9223372036854775807) (hl2 : svs.length ≤ 9223372036854775807) (t1 : farB north cols east lofts svs wrong = false) (t2 : checkE north cols east lofts svs wrong = 0) (t3 : A < 0) : StGoal north cols lofts wrong A B mi sl sh east svs ea sa ec sc w := by
  obtain ⟨g0, b0, b1⟩ := w2_spec w #[.int .i64 north, .int .i64 cols, .slice ea east.length ec, .int .i64 lofts, .slice sa svs.length sc, .int .i64 wrong] #[.int .i64 A, .int .i64 B, .int .i64 mi, .int .i64 sl, .int .i64 sh] 25 29
  have HFr := Lib.hid (fun W : World => freed_any W)
  have HF := Lib.hid (fun (W : World) (hW : G w W) => Far_any north cols lofts wrong east svs ea sa ec sc W (he.below hW) (hs.below hW) hl hl2)
  have HC := Lib.hid (fun (W : World) (hW : G w W) => rCheck_any north cols lofts wrong east svs ea sa ec sc W (he.below hW) (hs.below hW) hl hl2)
  rw [t1] at HF
  rw [t2] at HC
  clear he hs hl hl2 t1 t2
  unfold StGoal
  go_enter Try.func3, Try.ntmps3
  go_wp2_with (first | (go_at_call 4; refine (HF.out _ g0).mono ?_; rintro e w1 ⟨rfl, hG1⟩; replace b0 := b0.keep hG1; replace b1 := b1.keep hG1; have m0 := b0.cell 0; have m1 := b0.cell 1; have m2 := b0.cell 2; have m3 := b0.cell 3; have m4 := b0.cell 4; have m5 := b0.cell 5; have a0 := b1.cell 0; have a1 := b1.cell 1; have a2 := b1.cell 2; have a3 := b1.cell 3; have a4 := b1.cell 4; have lM := b0.lt; have lN := b1.lt; replace g0 := g0.t hG1; clear hG1) | (go_at_call 5; refine (HC.out _ g0).mono ?_; rintro e w1 ⟨rfl, hG1⟩; clear m0 m1 m2 m3 m4 m5 a0 a1 a2 a3 a4 lM lN; replace b0 := b0.keep hG1; replace b1 := b1.keep hG1; have m0 := b0.cell 0; have m1 := b0.cell 1; have m2 := b0.cell 2; have m3 := b0.cell 3; have m4 := b0.cell 4; have m5 := b0.cell 5; have a0 := b1.cell 0; have a1 := b1.cell 1; have a2 := b1.cell 2; have a3 := b1.cell 3; have a4 := b1.cell 4; have lM := b0.lt; have lN := b1.lt; replace g0 := g0.t hG1; clear hG1) | (go_at_call 6; refine (HFr.out _).mono ?_; rintro e w1 ⟨rfl, hG1⟩))
  go_ret
  exact ⟨rfl, g0.t hG1⟩
set_option maxRecDepth 100000 in
set_option maxHeartbeats 4000000 in
theorem st_4 (he : IntsAt w ea east) (hs : SvsAt w sa svs) (hl : east.length ≤ 9223372036854775807) (hl2 : svs.length ≤ 9223372036854775807) (t1 : farB north cols east lofts svs wrong = false) (t2 : checkE north cols east lofts svs wrong = 0) (t3 : ¬ A < 0) (t4 : lofts ≤ A) : StGoal north cols lofts wrong A B mi sl sh east svs ea sa ec sc w := by
  obtain ⟨g0, b0, b1⟩ := w2_spec w #[.int .i64 north, .int .i64 cols, .slice ea east.length ec, .int .i64 lofts, .slice sa svs.length sc, .int .i64 wrong] #[.int .i64 A, .int .i64 B, .int .i64 mi, .int .i64 sl, .int .i64 sh] 25 29
  have HFr := Lib.hid (fun W : World => freed_any W)
  have HF := Lib.hid (fun (W : World) (hW : G w W) => Far_any north cols lofts wrong east svs ea sa ec sc W (he.below hW) (hs.below hW) hl hl2)
  have HC := Lib.hid (fun (W : World) (hW : G w W) => rCheck_any north cols lofts wrong east svs ea sa ec sc W (he.below hW) (hs.below hW) hl hl2)
  rw [t1] at HF
  rw [t2] at HC
  clear he hs hl hl2 t1 t2
  unfold StGoal
  go_enter Try.func3, Try.ntmps3
  go_wp2_with (first | (go_at_call 4; refine (HF.out _ g0).mono ?_; rintro e w1 ⟨rfl, hG1⟩; replace b0 := b0.keep hG1; replace b1 := b1.keep hG1; have m0 := b0.cell 0; have m1 := b0.cell 1; have m2 := b0.cell 2; have m3 := b0.cell 3; have m4 := b0.cell 4; have m5 := b0.cell 5; have a0 := b1.cell 0; have a1 := b1.cell 1; have a2 := b1.cell 2; have a3 := b1.cell 3; have a4 := b1.cell 4; have lM := b0.lt; have lN := b1.lt; replace g0 := g0.t hG1; clear hG1) | (go_at_call 5; refine (HC.out _ g0).mono ?_; rintro e w1 ⟨rfl, hG1⟩; clear m0 m1 m2 m3 m4 m5 a0 a1 a2 a3 a4 lM lN; replace b0 := b0.keep hG1; replace b1 := b1.keep hG1; have m0 := b0.cell 0; have m1 := b0.cell 1; have m2 := b0.cell 2; have m3 := b0.cell 3; have m4 := b0.cell 4; have m5 := b0.cell 5; have a0 := b1.cell 0; have a1 := b1.cell 1; have a2 := b1.cell 2; have a3 := b1.cell 3; have a4 := b1.cell 4; have lM := b0.lt; have lN := b1.lt; replace g0 := g0.t hG1; clear hG1) | (go_at_call 6; refine (HFr.out _).mono ?_; rintro e w1 ⟨rfl, hG1⟩))
  go_ret
  exact ⟨rfl, g0.t hG1⟩
set_option maxRecDepth 100000 in
set_option maxHeartbeats 4000000 in
theorem st_5 (he : IntsAt w ea east) (hs : SvsAt w sa svs) (hl : east.length ≤ 9223372036854775807) (hl2 : svs.length ≤ 9223372036854775807) (t1 : farB north cols east lofts svs wrong = false) (t2 : checkE north cols east lofts svs wrong = 0) (t3 : ¬ A < 0) (t4 : ¬ lofts ≤ A) (t5 : B < 0) : StGoal north cols lofts wrong A B mi sl sh east svs ea sa ec sc w := by
  obtain ⟨g0, b0, b1⟩ := w2_spec w #[.int .i64 north, .int .i64 cols, .slice ea east.length ec, .int .i64 lofts, .slice sa svs.length sc, .int .i64 wrong] #[.int .i64 A, .int .i64 B, .int .i64 mi, .int .i64 sl, .int .i64 sh] 25 29
  have HFr := Lib.hid (fun W : World => freed_any W)
  have HF := Lib.hid (fun (W : World) (hW : G w W) => Far_any north cols lofts wrong east svs ea sa ec sc W (he.below hW) (hs.below hW) hl hl2)
  have HC := Lib.hid (fun (W : World) (hW : G w W) => rCheck_any north cols lofts wrong east svs ea sa ec sc W (he.below hW) (hs.below hW) hl hl2)
  rw [t1] at HF
  rw [t2] at HC
  clear he hs hl hl2 t1 t2
  unfold StGoal
  go_enter Try.func3, Try.ntmps3
  go_wp2_with (first | (go_at_call 4; refine (HF.out _ g0).mono ?_; rintro e w1 ⟨rfl, hG1⟩; replace b0 := b0.keep hG1; replace b1 := b1.keep hG1; have m0 := b0.cell 0; have m1 := b0.cell 1; have m2 := b0.cell 2; have m3 := b0.cell 3; have m4 := b0.cell 4; have m5 := b0.cell 5; have a0 := b1.cell 0; have a1 := b1.cell 1; have a2 := b1.cell 2; have a3 := b1.cell 3; have a4 := b1.cell 4; have lM := b0.lt; have lN := b1.lt; replace g0 := g0.t hG1; clear hG1) | (go_at_call 5; refine (HC.out _ g0).mono ?_; rintro e w1 ⟨rfl, hG1⟩; clear m0 m1 m2 m3 m4 m5 a0 a1 a2 a3 a4 lM lN; replace b0 := b0.keep hG1; replace b1 := b1.keep hG1; have m0 := b0.cell 0; have m1 := b0.cell 1; have m2 := b0.cell 2; have m3 := b0.cell 3; have m4 := b0.cell 4; have m5 := b0.cell 5; have a0 := b1.cell 0; have a1 := b1.cell 1; have a2 := b1.cell 2; have a3 := b1.cell 3; have a4 := b1.cell 4; have lM := b0.lt; have lN := b1.lt; replace g0 := g0.t hG1; clear hG1) | (go_at_call 6; refine (HFr.out _).mono ?_; rintro e w1 ⟨rfl, hG1⟩))
  go_ret
  exact ⟨rfl, g0.t hG1⟩
set_option maxRecDepth 100000 in
set_option maxHeartbeats 4000000 in
theorem st_6 (he : IntsAt w ea east) (hs : SvsAt w sa svs) (hl : east.length ≤ 9223372036854775807) (hl2 : svs.length ≤ 9223372036854775807) (t1 : farB north cols east lofts svs wrong = false) (t2 : checkE north cols east lofts svs wrong = 0) (t3 : ¬ A < 0) (t4 : ¬ lofts ≤ A) (t5 : ¬ B < 0) (t6 : lofts ≤ B) : StGoal north cols lofts wrong A B mi sl sh east svs ea sa ec sc w := by
  obtain ⟨g0, b0, b1⟩ := w2_spec w #[.int .i64 north, .int .i64 cols, .slice ea east.length ec, .int .i64 lofts, .slice sa svs.length sc, .int .i64 wrong] #[.int .i64 A, .int .i64 B, .int .i64 mi, .int .i64 sl, .int .i64 sh] 25 29
  have HFr := Lib.hid (fun W : World => freed_any W)
  have HF := Lib.hid (fun (W : World) (hW : G w W) => Far_any north cols lofts wrong east svs ea sa ec sc W (he.below hW) (hs.below hW) hl hl2)
  have HC := Lib.hid (fun (W : World) (hW : G w W) => rCheck_any north cols lofts wrong east svs ea sa ec sc W (he.below hW) (hs.below hW) hl hl2)
  rw [t1] at HF
  rw [t2] at HC
  clear he hs hl hl2 t1 t2
  unfold StGoal
  go_enter Try.func3, Try.ntmps3
  go_wp2_with (first | (go_at_call 4; refine (HF.out _ g0).mono ?_; rintro e w1 ⟨rfl, hG1⟩; replace b0 := b0.keep hG1; replace b1 := b1.keep hG1; have m0 := b0.cell 0; have m1 := b0.cell 1; have m2 := b0.cell 2; have m3 := b0.cell 3; have m4 := b0.cell 4; have m5 := b0.cell 5; have a0 := b1.cell 0; have a1 := b1.cell 1; have a2 := b1.cell 2; have a3 := b1.cell 3; have a4 := b1.cell 4; have lM := b0.lt; have lN := b1.lt; replace g0 := g0.t hG1; clear hG1) | (go_at_call 5; refine (HC.out _ g0).mono ?_; rintro e w1 ⟨rfl, hG1⟩; clear m0 m1 m2 m3 m4 m5 a0 a1 a2 a3 a4 lM lN; replace b0 := b0.keep hG1; replace b1 := b1.keep hG1; have m0 := b0.cell 0; have m1 := b0.cell 1; have m2 := b0.cell 2; have m3 := b0.cell 3; have m4 := b0.cell 4; have m5 := b0.cell 5; have a0 := b1.cell 0; have a1 := b1.cell 1; have a2 := b1.cell 2; have a3 := b1.cell 3; have a4 := b1.cell 4; have lM := b0.lt; have lN := b1.lt; replace g0 := g0.t hG1; clear hG1) | (go_at_call 6; refine (HFr.out _).mono ?_; rintro e w1 ⟨rfl, hG1⟩))
  go_ret
  exact ⟨rfl, g0.t hG1⟩
set_option maxRecDepth 100000 in
set_option maxHeartbeats 4000000 in
theorem st_7 (he : IntsAt w ea east) (hs : SvsAt w sa svs) (hl : east.length ≤ 9223372036854775807) (hl2 : svs.length ≤ 9223372036854775807) (t1 : farB north cols east lofts svs wrong = false) (t2 : checkE north cols east lofts svs wrong = 0) (t3 : ¬ A < 0) (t4 : ¬ lofts ≤ A) (t5 : ¬ B < 0) (t6 : ¬ lofts ≤ B) (t7 : mi < 0) : StGoal north cols lofts wrong A B mi sl sh east svs ea sa ec sc w := by
  obtain ⟨g0, b0, b1⟩ := w2_spec w #[.int .i64 north, .int .i64 cols, .slice ea east.length ec, .int .i64 lofts, .slice sa svs.length sc, .int .i64 wrong] #[.int .i64 A, .int .i64 B, .int .i64 mi, .int .i64 sl, .int .i64 sh] 25 29
  have HFr := Lib.hid (fun W : World => freed_any W)
  have HF := Lib.hid (fun (W : World) (hW : G w W) => Far_any north cols lofts wrong east svs ea sa ec sc W (he.below hW) (hs.below hW) hl hl2)
  have HC := Lib.hid (fun (W : World) (hW : G w W) => rCheck_any north cols lofts wrong east svs ea sa ec sc W (he.below hW) (hs.below hW) hl hl2)
  rw [t1] at HF
  rw [t2] at HC
  clear he hs hl hl2 t1 t2
  unfold StGoal
  go_enter Try.func3, Try.ntmps3
  go_wp2_with (first | (go_at_call 4; refine (HF.out _ g0).mono ?_; rintro e w1 ⟨rfl, hG1⟩; replace b0 := b0.keep hG1; replace b1 := b1.keep hG1; have m0 := b0.cell 0; have m1 := b0.cell 1; have m2 := b0.cell 2; have m3 := b0.cell 3; have m4 := b0.cell 4; have m5 := b0.cell 5; have a0 := b1.cell 0; have a1 := b1.cell 1; have a2 := b1.cell 2; have a3 := b1.cell 3; have a4 := b1.cell 4; have lM := b0.lt; have lN := b1.lt; replace g0 := g0.t hG1; clear hG1) | (go_at_call 5; refine (HC.out _ g0).mono ?_; rintro e w1 ⟨rfl, hG1⟩; clear m0 m1 m2 m3 m4 m5 a0 a1 a2 a3 a4 lM lN; replace b0 := b0.keep hG1; replace b1 := b1.keep hG1; have m0 := b0.cell 0; have m1 := b0.cell 1; have m2 := b0.cell 2; have m3 := b0.cell 3; have m4 := b0.cell 4; have m5 := b0.cell 5; have a0 := b1.cell 0; have a1 := b1.cell 1; have a2 := b1.cell 2; have a3 := b1.cell 3; have a4 := b1.cell 4; have lM := b0.lt; have lN := b1.lt; replace g0 := g0.t hG1; clear hG1) | (go_at_call 6; refine (HFr.out _).mono ?_; rintro e w1 ⟨rfl, hG1⟩))
  go_ret
  exact ⟨rfl, g0.t hG1⟩
set_option maxRecDepth 100000 in
set_option maxHeartbeats 4000000 in
theorem st_8 (he : IntsAt w ea east) (hs : SvsAt w sa svs) (hl : east.length ≤ 9223372036854775807) (hl2 : svs.length ≤ 9223372036854775807) (t1 : farB north cols east lofts svs wrong = false) (t2 : checkE north cols east lofts svs wrong = 0) (t3 : ¬ A < 0) (t4 : ¬ lofts ≤ A) (t5 : ¬ B < 0) (t6 : ¬ lofts ≤ B) (t7 : ¬ mi < 0) (t8 : 9999 < mi) : StGoal north cols lofts wrong A B mi sl sh east svs ea sa ec sc w := by
  obtain ⟨g0, b0, b1⟩ := w2_spec w #[.int .i64 north, .int .i64 cols, .slice ea east.length ec, .int .i64 lofts, .slice sa svs.length sc, .int .i64 wrong] #[.int .i64 A, .int .i64 B, .int .i64 mi, .int .i64 sl, .int .i64 sh] 25 29
  have HFr := Lib.hid (fun W : World => freed_any W)
  have HF := Lib.hid (fun (W : World) (hW : G w W) => Far_any north cols lofts wrong east svs ea sa ec sc W (he.below hW) (hs.below hW) hl hl2)
  have HC := Lib.hid (fun (W : World) (hW : G w W) => rCheck_any north cols lofts wrong east svs ea sa ec sc W (he.below hW) (hs.below hW) hl hl2)
  rw [t1] at HF
  rw [t2] at HC
  clear he hs hl hl2 t1 t2
  unfold StGoal
  go_enter Try.func3, Try.ntmps3
  go_wp2_with (first | (go_at_call 4; refine (HF.out _ g0).mono ?_; rintro e w1 ⟨rfl, hG1⟩; replace b0 := b0.keep hG1; replace b1 := b1.keep hG1; have m0 := b0.cell 0; have m1 := b0.cell 1; have m2 := b0.cell 2; have m3 := b0.cell 3; have m4 := b0.cell 4; have m5 := b0.cell 5; have a0 := b1.cell 0; have a1 := b1.cell 1; have a2 := b1.cell 2; have a3 := b1.cell 3; have a4 := b1.cell 4; have lM := b0.lt; have lN := b1.lt; replace g0 := g0.t hG1; clear hG1) | (go_at_call 5; refine (HC.out _ g0).mono ?_; rintro e w1 ⟨rfl, hG1⟩; clear m0 m1 m2 m3 m4 m5 a0 a1 a2 a3 a4 lM lN; replace b0 := b0.keep hG1; replace b1 := b1.keep hG1; have m0 := b0.cell 0; have m1 := b0.cell 1; have m2 := b0.cell 2; have m3 := b0.cell 3; have m4 := b0.cell 4; have m5 := b0.cell 5; have a0 := b1.cell 0; have a1 := b1.cell 1; have a2 := b1.cell 2; have a3 := b1.cell 3; have a4 := b1.cell 4; have lM := b0.lt; have lN := b1.lt; replace g0 := g0.t hG1; clear hG1) | (go_at_call 6; refine (HFr.out _).mono ?_; rintro e w1 ⟨rfl, hG1⟩))
  go_ret
  exact ⟨rfl, g0.t hG1⟩
set_option maxRecDepth 100000 in
set_option maxHeartbeats 4000000 in
theorem st_9 (he : IntsAt w ea east) (hs : SvsAt w sa svs) (hl : east.length ≤ 9223372036854775807) (hl2 : svs.length ≤ 9223372036854775807) (t1 : farB north cols east lofts svs wrong = false) (t2 : checkE north cols east lofts svs wrong = 0) (t3 : ¬ A < 0) (t4 : ¬ lofts ≤ A) (t5 : ¬ B < 0) (t6 : ¬ lofts ≤ B) (t7 : ¬ mi < 0) (t8 : ¬ 9999 < mi) (t9 : sl < 1) : StGoal north cols lofts wrong A B mi sl sh east svs ea sa ec sc w := by
  obtain ⟨g0, b0, b1⟩ := w2_spec w #[.int .i64 north, .int .i64 cols, .slice ea east.length ec, .int .i64 lofts, .slice sa svs.length sc, .int .i64 wrong] #[.int .i64 A, .int .i64 B, .int .i64 mi, .int .i64 sl, .int .i64 sh] 25 29
  have HFr := Lib.hid (fun W : World => freed_any W)
  have HF := Lib.hid (fun (W : World) (hW : G w W) => Far_any north cols lofts wrong east svs ea sa ec sc W (he.below hW) (hs.below hW) hl hl2)
  have HC := Lib.hid (fun (W : World) (hW : G w W) => rCheck_any north cols lofts wrong east svs ea sa ec sc W (he.below hW) (hs.below hW) hl hl2)
  rw [t1] at HF
  rw [t2] at HC
  clear he hs hl hl2 t1 t2
  unfold StGoal
  go_enter Try.func3, Try.ntmps3
  go_wp2_with (first | (go_at_call 4; refine (HF.out _ g0).mono ?_; rintro e w1 ⟨rfl, hG1⟩; replace b0 := b0.keep hG1; replace b1 := b1.keep hG1; have m0 := b0.cell 0; have m1 := b0.cell 1; have m2 := b0.cell 2; have m3 := b0.cell 3; have m4 := b0.cell 4; have m5 := b0.cell 5; have a0 := b1.cell 0; have a1 := b1.cell 1; have a2 := b1.cell 2; have a3 := b1.cell 3; have a4 := b1.cell 4; have lM := b0.lt; have lN := b1.lt; replace g0 := g0.t hG1; clear hG1) | (go_at_call 5; refine (HC.out _ g0).mono ?_; rintro e w1 ⟨rfl, hG1⟩; clear m0 m1 m2 m3 m4 m5 a0 a1 a2 a3 a4 lM lN; replace b0 := b0.keep hG1; replace b1 := b1.keep hG1; have m0 := b0.cell 0; have m1 := b0.cell 1; have m2 := b0.cell 2; have m3 := b0.cell 3; have m4 := b0.cell 4; have m5 := b0.cell 5; have a0 := b1.cell 0; have a1 := b1.cell 1; have a2 := b1.cell 2; have a3 := b1.cell 3; have a4 := b1.cell 4; have lM := b0.lt; have lN := b1.lt; replace g0 := g0.t hG1; clear hG1) | (go_at_call 6; refine (HFr.out _).mono ?_; rintro e w1 ⟨rfl, hG1⟩))
  go_ret
  exact ⟨rfl, g0.t hG1⟩
set_option maxRecDepth 100000 in
set_option maxHeartbeats 4000000 in
theorem st_10 (he : IntsAt w ea east) (hs : SvsAt w sa svs) (hl : east.length ≤ 9223372036854775807) (hl2 : svs.length ≤ 9223372036854775807) (t1 : farB north cols east lofts svs wrong = false) (t2 : checkE north cols east lofts svs wrong = 0) (t3 : ¬ A < 0) (t4 : ¬ lofts ≤ A) (t5 : ¬ B < 0) (t6 : ¬ lofts ≤ B) (t7 : ¬ mi < 0) (t8 : ¬ 9999 < mi) (t9 : ¬ sl < 1) (t10 : sh < sl) : StGoal north cols lofts wrong A B mi sl sh east svs ea sa ec sc w := by
  obtain ⟨g0, b0, b1⟩ := w2_spec w #[.int .i64 north, .int .i64 cols, .slice ea east.length ec, .int .i64 lofts, .slice sa svs.length sc, .int .i64 wrong] #[.int .i64 A, .int .i64 B, .int .i64 mi, .int .i64 sl, .int .i64 sh] 25 29
  have HFr := Lib.hid (fun W : World => freed_any W)
  have HF := Lib.hid (fun (W : World) (hW : G w W) => Far_any north cols lofts wrong east svs ea sa ec sc W (he.below hW) (hs.below hW) hl hl2)
  have HC := Lib.hid (fun (W : World) (hW : G w W) => rCheck_any north cols lofts wrong east svs ea sa ec sc W (he.below hW) (hs.below hW) hl hl2)
  rw [t1] at HF
  rw [t2] at HC
  clear he hs hl hl2 t1 t2
  unfold StGoal
  go_enter Try.func3, Try.ntmps3
  go_wp2_with (first | (go_at_call 4; refine (HF.out _ g0).mono ?_; rintro e w1 ⟨rfl, hG1⟩; replace b0 := b0.keep hG1; replace b1 := b1.keep hG1; have m0 := b0.cell 0; have m1 := b0.cell 1; have m2 := b0.cell 2; have m3 := b0.cell 3; have m4 := b0.cell 4; have m5 := b0.cell 5; have a0 := b1.cell 0; have a1 := b1.cell 1; have a2 := b1.cell 2; have a3 := b1.cell 3; have a4 := b1.cell 4; have lM := b0.lt; have lN := b1.lt; replace g0 := g0.t hG1; clear hG1) | (go_at_call 5; refine (HC.out _ g0).mono ?_; rintro e w1 ⟨rfl, hG1⟩; clear m0 m1 m2 m3 m4 m5 a0 a1 a2 a3 a4 lM lN; replace b0 := b0.keep hG1; replace b1 := b1.keep hG1; have m0 := b0.cell 0; have m1 := b0.cell 1; have m2 := b0.cell 2; have m3 := b0.cell 3; have m4 := b0.cell 4; have m5 := b0.cell 5; have a0 := b1.cell 0; have a1 := b1.cell 1; have a2 := b1.cell 2; have a3 := b1.cell 3; have a4 := b1.cell 4; have lM := b0.lt; have lN := b1.lt; replace g0 := g0.t hG1; clear hG1) | (go_at_call 6; refine (HFr.out _).mono ?_; rintro e w1 ⟨rfl, hG1⟩))
  go_ret
  exact ⟨rfl, g0.t hG1⟩
set_option maxRecDepth 100000 in
set_option maxHeartbeats 4000000 in
theorem st_11 (he : IntsAt w ea east) (hs : SvsAt w sa svs) (hl : east.length ≤ 9223372036854775807) (hl2 : svs.length ≤ 9223372036854775807) (t1 : farB north cols east lofts svs wrong = false) (t2 : checkE north cols east lofts svs wrong = 0) (t3 : ¬ A < 0) (t4 : ¬ lofts ≤ A) (t5 : ¬ B < 0) (t6 : ¬ lofts ≤ B) (t7 : ¬ mi < 0) (t8 : ¬ 9999 < mi) (t9 : ¬ sl < 1) (t10 : ¬ sh < sl) (t11 : 3000000 < sh) : StGoal north cols lofts wrong A B mi sl sh east svs ea sa ec sc w := by
  obtain ⟨g0, b0, b1⟩ := w2_spec w #[.int .i64 north, .int .i64 cols, .slice ea east.length ec, .int .i64 lofts, .slice sa svs.length sc, .int .i64 wrong] #[.int .i64 A, .int .i64 B, .int .i64 mi, .int .i64 sl, .int .i64 sh] 25 29
  have HFr := Lib.hid (fun W : World => freed_any W)
  have HF := Lib.hid (fun (W : World) (hW : G w W) => Far_any north cols lofts wrong east svs ea sa ec sc W (he.below hW) (hs.below hW) hl hl2)
  have HC := Lib.hid (fun (W : World) (hW : G w W) => rCheck_any north cols lofts wrong east svs ea sa ec sc W (he.below hW) (hs.below hW) hl hl2)
  rw [t1] at HF
  rw [t2] at HC
  clear he hs hl hl2 t1 t2
  unfold StGoal
  go_enter Try.func3, Try.ntmps3
  go_wp2_with (first | (go_at_call 4; refine (HF.out _ g0).mono ?_; rintro e w1 ⟨rfl, hG1⟩; replace b0 := b0.keep hG1; replace b1 := b1.keep hG1; have m0 := b0.cell 0; have m1 := b0.cell 1; have m2 := b0.cell 2; have m3 := b0.cell 3; have m4 := b0.cell 4; have m5 := b0.cell 5; have a0 := b1.cell 0; have a1 := b1.cell 1; have a2 := b1.cell 2; have a3 := b1.cell 3; have a4 := b1.cell 4; have lM := b0.lt; have lN := b1.lt; replace g0 := g0.t hG1; clear hG1) | (go_at_call 5; refine (HC.out _ g0).mono ?_; rintro e w1 ⟨rfl, hG1⟩; clear m0 m1 m2 m3 m4 m5 a0 a1 a2 a3 a4 lM lN; replace b0 := b0.keep hG1; replace b1 := b1.keep hG1; have m0 := b0.cell 0; have m1 := b0.cell 1; have m2 := b0.cell 2; have m3 := b0.cell 3; have m4 := b0.cell 4; have m5 := b0.cell 5; have a0 := b1.cell 0; have a1 := b1.cell 1; have a2 := b1.cell 2; have a3 := b1.cell 3; have a4 := b1.cell 4; have lM := b0.lt; have lN := b1.lt; replace g0 := g0.t hG1; clear hG1) | (go_at_call 6; refine (HFr.out _).mono ?_; rintro e w1 ⟨rfl, hG1⟩))
  go_ret
  exact ⟨rfl, g0.t hG1⟩
end
end Go.Proofs.Ytdneehbhncekaaa
