import Derived.Test.YtcekdljjmfkacaaOg
set_option linter.unusedSimpArgs false
set_option linter.unusedVariables false
namespace Go.Proofs.Ytcekdljjmfkacaa
open Go.RowKit Go.Shelf
attribute [local go_sem] Oper.semAt_some wide_fn wide_dep wideR_fn wideR_dep
theorem minL_mem {n : Nat} {c : Nat → Nat → Int} {wrong : Int} {q m : Nat} : m ∈ minL n c wrong q ↔ m < q ∧ ((agN c m n : Nat) : Int) ≤ wrong := by
  unfold minL
  simp [List.mem_filter]
theorem minL_lt (n : Nat) (c : Nat → Nat → Int) (wrong : Int) (q : Nat) : (minL n c wrong q).Pairwise (· < ·) := by
  unfold minL
  exact List.Pairwise.filter _ List.pairwise_lt_range
/-- what Minute answers of valid watches -/
theorem minR_cases {n : Nat} {c : Nat → Nat → Int} {wrong : Int} (h : (watchB n c && isInB wrong 0 8) = true) :
    (minR n c wrong = .tuple #[.agg #[.int .i64 0, .int .i64 0], .int .i64 3] ∧ ∀ m : Nat, m < 10000 → ¬ ((agN c m n : Nat) : Int) ≤ wrong) ∨
    ∃ x y : Nat, minR n c wrong = .tuple #[.agg #[.int .i64 (x : Nat), .int .i64 (y : Nat)], .int .i64 0] ∧ x < 10000 ∧ y < 10000 ∧ ((agN c x n : Nat) : Int) ≤ wrong ∧ ((agN c y n : Nat) : Int) ≤ wrong ∧ ∀ m : Nat, m < 10000 → ((agN c m n : Nat) : Int) ≤ wrong → x ≤ m ∧ m ≤ y := by
  have hM := fun m => minL_mem (n := n) (c := c) (wrong := wrong) (q := 10000) (m := m)
  have hP := minL_lt n c wrong 10000
  unfold minR
  rw [h, if_neg (by simp)]
  generalize minL n c wrong 10000 = T at *
  cases T with
  | nil =>
    refine .inl ⟨rfl, fun m hm h => ?_⟩
    have := (hM m).2 ⟨hm, h⟩
    cases this
  | cons x l =>
    obtain ⟨y, hy⟩ : ∃ y, y = (x :: l).getLast (by simp) := ⟨_, rfl⟩
    have h1 := (hM x).1 List.mem_cons_self
    have hym : y ∈ x :: l := by rw [hy]; exact List.getLast_mem _
    have h2 := (hM y).1 hym
    refine .inr ⟨x, y, by rw [hy], h1.1, h2.1, h1.2, h2.2, fun m hm h => ?_⟩
    have hmem := (hM m).2 ⟨hm, h⟩
    constructor
    · rcases List.mem_cons.1 hmem with rfl | hl
      · exact Nat.le_refl _
      · exact Nat.le_of_lt ((List.pairwise_cons.1 hP).1 m hl)
    · have key : ∀ (L : List Nat) (hne : L ≠ []), L.Pairwise (· < ·) → ∀ m ∈ L, m ≤ L.getLast hne := by
        intro L
        induction L with
        | nil => intro h; exact absurd rfl h
        | cons a L ih =>
          intro _ hp m hm
          cases L with
          | nil =>
            have : m = a := by simpa using hm
            simp [this]
          | cons b L =>
            rw [List.getLast_cons (by simp)]
            have hp2 := List.pairwise_cons.1 hp
            rcases List.mem_cons.1 hm with rfl | hm2
            · exact Nat.le_of_lt (hp2.1 _ (List.getLast_mem _))
            · exact ih (by simp) hp2.2 m hm2
      rw [hy]
      exact key _ _ hP m hmem
set_option maxRecDepth 100000 in
set_option maxHeartbeats 4000000 in
theorem Watch_any (a : Option Addr) (cap n : Nat) (c : Nat → Nat → Int) (wrong mi : Int) (w : World) (ha : RowAt w a n 2 c) (hn : n ≤ 9223372036854775807) :
    Calls Try.prog 10 #[.slice a n cap, .int .i64 wrong, .int .i64 mi] w fun e w' => e = .returned (.bool true) ∧ G w w' := by
  have HA := Lib.hid (fun (W : World) (hW : G w W) => areWatches_any a cap n c wrong W (ha.below hW) hn)
  have HWK := Lib.hid (fun W : World => works_any W)
  have hmin8 := Lib.hid (fun (W : World) => min2 8 (wrong + 1) W)
  cases hok : watOk n c wrong
  · rw [hok] at HA
    clear hok ha
    go_enter Try.func10, Try.ntmps10
    go_wp2_with (first | (go_at_call 26; refine (HA.out _ (G.rf _)).mono ?_; rintro e w1 ⟨rfl, hG1⟩) | (go_at_call 13; refine (HWK.out _).mono ?_; rintro e w2 ⟨rfl, hG2⟩))
    go_ret
    exact ⟨rfl, hG1.t hG2⟩
  · rw [hok] at HA
    by_cases hm1 : mi < 0
    · clear hok ha
      go_enter Try.func10, Try.ntmps10
      go_wp2_with (first | (go_at_call 26; refine (HA.out _ (G.rf _)).mono ?_; rintro e w1 ⟨rfl, hG1⟩) | (go_at_call 13; refine (HWK.out _).mono ?_; rintro e w2 ⟨rfl, hG2⟩))
      go_ret
      exact ⟨rfl, hG1.t hG2⟩
    by_cases hm2 : 9999 < mi
    · clear hok ha
      go_enter Try.func10, Try.ntmps10
      go_wp2_with (first | (go_at_call 26; refine (HA.out _ (G.rf _)).mono ?_; rintro e w1 ⟨rfl, hG1⟩) | (go_at_call 13; refine (HWK.out _).mono ?_; rintro e w2 ⟨rfl, hG2⟩))
      go_ret
      exact ⟨rfl, hG1.t hG2⟩
    obtain ⟨m, rfl⟩ : ∃ m : Nat, mi = m := ⟨mi.toNat, by omega⟩
    have hm : m < 10000 := by omega
    rw [← watOk_eq] at hok
    have hw8 : (0 ≤ wrong ∧ wrong ≤ 8) ∧ n ≤ 8 ∧ watchB n c = true := by
      simp only [Bool.and_eq_true] at hok
      refine ⟨?_, ?_, hok.1⟩
      · have := hok.2
        unfold isInB at this
        simp only [Bool.and_eq_true, decide_eq_true_eq] at this
        exact this
      · have := hok.1
        unfold watchB isInB at this
        simp only [Bool.and_eq_true, decide_eq_true_eq] at this
        omega
    obtain ⟨w2, hw2⟩ : ∃ w2 : Int, w2 = min 8 (wrong + 1) := ⟨_, rfl⟩
    have hok2 : (watchB n c && isInB w2 0 8) = true := by
      rw [hw8.2.2]
      unfold isInB
      simp only [Bool.true_and, Bool.and_eq_true, decide_eq_true_eq]
      omega
    have c1 := minR_cases hok
    have c2 := minR_cases hok2
    have HM1 := Lib.hid (fun (W : World) (hW : G w W) => Minute_any a cap n c wrong W (ha.below hW))
    have HM2 := Lib.hid (fun (W : World) (hW : G w W) => Minute_any a cap n c w2 W (ha.below hW))
    have HG := Lib.hid (fun (W : World) (hW : G w W) (x : Int) => against_any a cap n c x W (ha.below hW) (by omega))
    have xw : IntKind.i64.wrap (wrong + 1) = wrong + 1 := IntWalk.i64_in _ (by omega)
    rw [← hw2] at hmin8
    have hle : wrong ≤ w2 := by omega
    have HLE := Lib.hid hle
    have HIN := Lib.hid (fun (x y : Int) (W : World) => lawIn_any (m : Int) x y W)
    clear hok hok2 hw2 ha
    rcases c1 with ⟨r1, hno⟩ | ⟨x, y, r1, hx, hy, hax, hay, hall⟩
    · have hgt := hno m hm
      rw [r1] at HM1
      rcases c2 with ⟨r2, hno2⟩ | ⟨x2, y2, r2, hx2, hy2, hax2, hay2, hall2⟩
      · rw [r2] at HM2
        clear r1 r2 hno hno2 HIN
        go_enter Try.func10, Try.ntmps10
        go_wp2_with (first | (go_at_call 26; refine (HA.out _ (G.rf _)).mono ?_; rintro e w1 ⟨rfl, hG1⟩) | (go_at_call 27; refine (HM1.out _ hG1).mono ?_; rintro e wa ⟨rfl, hG2⟩; clear HM1; have xm := hmin8.out (wa.alloc (.cells #[.int .i64 0, .int .i64 0] 30)); have gA : G w (wa.alloc (.cells #[.int .i64 0, .int .i64 0] 30)) := (hG1.t hG2).a _; have b7 : Blk (wa.alloc (.cells #[.int .i64 0, .int .i64 0] 30)) wa.heap.size 30 #[.int .i64 0, .int .i64 0] := Blk.new wa 30 _) | (go_at_call 27; refine (HM2.out _ gA).mono ?_; rintro e wb ⟨rfl, hG3⟩; clear HM2; have gB : G w (wb.alloc (.cells #[.int .i64 0, .int .i64 0] 30)) := (gA.t hG3).a _; have b9 : Blk (wb.alloc (.cells #[.int .i64 0, .int .i64 0] 30)) wb.heap.size 30 #[.int .i64 0, .int .i64 0] := Blk.new wb 30 _; replace b7 := b7.keep (hG3.a (.cells #[.int .i64 0, .int .i64 0] 30))) | (go_at_call 28; refine (HG.out _ gB m).mono ?_; rintro e wc ⟨rfl, hG4⟩) | (go_at_call 13; refine (HWK.out _).mono ?_; rintro e wz ⟨rfl, hGz⟩))
        go_ret
        exact ⟨rfl, (gB.t hG4).t hGz⟩
      · rw [r2] at HM2
        clear r1 r2 hno hax2 hay2 hall2 hx2 hy2 HIN
        go_enter Try.func10, Try.ntmps10
        go_wp2_with (first | (go_at_call 26; refine (HA.out _ (G.rf _)).mono ?_; rintro e w1 ⟨rfl, hG1⟩) | (go_at_call 27; refine (HM1.out _ hG1).mono ?_; rintro e wa ⟨rfl, hG2⟩; clear HM1; have xm := hmin8.out (wa.alloc (.cells #[.int .i64 0, .int .i64 0] 30)); have gA : G w (wa.alloc (.cells #[.int .i64 0, .int .i64 0] 30)) := (hG1.t hG2).a _; have b7 : Blk (wa.alloc (.cells #[.int .i64 0, .int .i64 0] 30)) wa.heap.size 30 #[.int .i64 0, .int .i64 0] := Blk.new wa 30 _) | (go_at_call 27; refine (HM2.out _ gA).mono ?_; rintro e wb ⟨rfl, hG3⟩; clear HM2; have gB : G w (wb.alloc (.cells #[.int .i64 (x2 : Nat), .int .i64 (y2 : Nat)] 30)) := (gA.t hG3).a _; have b9 : Blk (wb.alloc (.cells #[.int .i64 (x2 : Nat), .int .i64 (y2 : Nat)] 30)) wb.heap.size 30 #[.int .i64 (x2 : Nat), .int .i64 (y2 : Nat)] := Blk.new wb 30 _; replace b7 := b7.keep (hG3.a (.cells #[.int .i64 (x2 : Nat), .int .i64 (y2 : Nat)] 30))) | (go_at_call 28; refine (HG.out _ gB m).mono ?_; rintro e wc ⟨rfl, hG4⟩) | (go_at_call 13; refine (HWK.out _).mono ?_; rintro e wz ⟨rfl, hGz⟩))
        go_ret
        exact ⟨rfl, (gB.t hG4).t hGz⟩
    · rw [r1] at HM1
      rcases c2 with ⟨r2, hno2⟩ | ⟨x2, y2, r2, hx2, hy2, hax2, hay2, hall2⟩
      · exact absurd (Int.le_trans hax hle) (hno2 x hx)
      rw [r2] at HM2
      have k1 := hall2 x hx (Int.le_trans hax hle)
      have k2 := hall2 y hy (Int.le_trans hay hle)
      have k3 : (x2 : Int) ≤ x := by omega
      have k4 : (y : Int) ≤ y2 := by omega
      have k5 : ¬ (x : Int) < 0 := by omega
      have k6 : ¬ (9999 : Int) < y := by omega
      have HGm := Lib.hid (fun (W : World) (hW : G w W) => HG.out W hW m)
      have HGx := Lib.hid (fun (W : World) (hW : G w W) => HG.out W hW x)
      have HGy := Lib.hid (fun (W : World) (hW : G w W) => HG.out W hW y)
      have hall3 := hall m hm
      clear r1 r2 hall hall2 hax2 hay2 hx2 hy2 k1 k2 HG hx hy
      have nx : ¬ wrong < ((agN c x n : Nat) : Int) := by omega
      have ny : ¬ wrong < ((agN c y n : Nat) : Int) := by omega
      clear hax hay
      generalize agN c x n = ax at *
      generalize agN c y n = ay at *
      by_cases hle2 : ((agN c m n : Nat) : Int) ≤ wrong
      · have k7 := hall3 hle2
        have HIy := Lib.hid (fun W : World => HIN.out (x : Int) (y : Int) W)
        rw [show isInB (m : Int) x y = true by simp [isInB]; omega] at HIy
        clear HIN hall3 k7
        generalize agN c m n = am at *
        go_enter Try.func10, Try.ntmps10
        go_wp2_with (first | (go_at_call 26; refine (HA.out _ (G.rf _)).mono ?_; rintro e w1 ⟨rfl, hG1⟩) | (go_at_call 27; refine (HM1.out _ hG1).mono ?_; rintro e wa ⟨rfl, hG2⟩; clear HM1; have xm := hmin8.out (wa.alloc (.cells #[.int .i64 (x : Nat), .int .i64 (y : Nat)] 30)); have gA : G w (wa.alloc (.cells #[.int .i64 (x : Nat), .int .i64 (y : Nat)] 30)) := (hG1.t hG2).a _; have b7 : Blk (wa.alloc (.cells #[.int .i64 (x : Nat), .int .i64 (y : Nat)] 30)) wa.heap.size 30 #[.int .i64 (x : Nat), .int .i64 (y : Nat)] := Blk.new wa 30 _) | (go_at_call 27; refine (HM2.out _ gA).mono ?_; rintro e wb ⟨rfl, hG3⟩; clear HM2; have gB : G w (wb.alloc (.cells #[.int .i64 (x2 : Nat), .int .i64 (y2 : Nat)] 30)) := (gA.t hG3).a _; have b9 : Blk (wb.alloc (.cells #[.int .i64 (x2 : Nat), .int .i64 (y2 : Nat)] 30)) wb.heap.size 30 #[.int .i64 (x2 : Nat), .int .i64 (y2 : Nat)] := Blk.new wb 30 _; replace b7 := b7.keep (hG3.a (.cells #[.int .i64 (x2 : Nat), .int .i64 (y2 : Nat)] 30))) | (go_at_call 28; refine (HGm.out _ gB).mono ?_; rintro e wc ⟨rfl, hG4⟩; replace b7 := b7.keep hG4; replace b9 := b9.keep hG4; replace gB := gB.t hG4; have e70 := b7.cell 0; have e71 := b7.cell 1; have l7 := b7.lt; have e90 := b9.cell 0; have e91 := b9.cell 1; have l9 := b9.lt; clear HGm) | (go_at_call 18; refine (HIy.out _).mono ?_; rintro e wi ⟨rfl, hG5⟩; clear e70 e71 l7 e90 e91 l9; replace b7 := b7.keep hG5; replace b9 := b9.keep hG5; replace gB := gB.t hG5; have e70 := b7.cell 0; have e71 := b7.cell 1; have l7 := b7.lt; have e90 := b9.cell 0; have e91 := b9.cell 1; have l9 := b9.lt; clear HIy) | (go_at_call 28; refine (HGx.out _ gB).mono ?_; rintro e wx ⟨rfl, hG6⟩; clear e70 e71 l7 e90 e91 l9; replace b7 := b7.keep hG6; replace b9 := b9.keep hG6; replace gB := gB.t hG6; have e70 := b7.cell 0; have e71 := b7.cell 1; have l7 := b7.lt; have e90 := b9.cell 0; have e91 := b9.cell 1; have l9 := b9.lt; clear HGx) | (go_at_call 28; refine (HGy.out _ gB).mono ?_; rintro e wy ⟨rfl, hG7⟩; clear e70 e71 l7 e90 e91 l9; replace b7 := b7.keep hG7; replace b9 := b9.keep hG7; replace gB := gB.t hG7; have e70 := b7.cell 0; have e71 := b7.cell 1; have l7 := b7.lt; have e90 := b9.cell 0; have e91 := b9.cell 1; have l9 := b9.lt; clear HGy) | (go_at_call 13; refine (HWK.out _).mono ?_; rintro e wz ⟨rfl, hGz⟩))
        go_ret
        exact ⟨rfl, gB.t hGz⟩
      · clear HIN hall3
        generalize agN c m n = am at *
        go_enter Try.func10, Try.ntmps10
        go_wp2_with (first | (go_at_call 26; refine (HA.out _ (G.rf _)).mono ?_; rintro e w1 ⟨rfl, hG1⟩) | (go_at_call 27; refine (HM1.out _ hG1).mono ?_; rintro e wa ⟨rfl, hG2⟩; clear HM1; have xm := hmin8.out (wa.alloc (.cells #[.int .i64 (x : Nat), .int .i64 (y : Nat)] 30)); have gA : G w (wa.alloc (.cells #[.int .i64 (x : Nat), .int .i64 (y : Nat)] 30)) := (hG1.t hG2).a _; have b7 : Blk (wa.alloc (.cells #[.int .i64 (x : Nat), .int .i64 (y : Nat)] 30)) wa.heap.size 30 #[.int .i64 (x : Nat), .int .i64 (y : Nat)] := Blk.new wa 30 _) | (go_at_call 27; refine (HM2.out _ gA).mono ?_; rintro e wb ⟨rfl, hG3⟩; clear HM2; have gB : G w (wb.alloc (.cells #[.int .i64 (x2 : Nat), .int .i64 (y2 : Nat)] 30)) := (gA.t hG3).a _; have b9 : Blk (wb.alloc (.cells #[.int .i64 (x2 : Nat), .int .i64 (y2 : Nat)] 30)) wb.heap.size 30 #[.int .i64 (x2 : Nat), .int .i64 (y2 : Nat)] := Blk.new wb 30 _; replace b7 := b7.keep (hG3.a (.cells #[.int .i64 (x2 : Nat), .int .i64 (y2 : Nat)] 30))) | (go_at_call 28; refine (HGm.out _ gB).mono ?_; rintro e wc ⟨rfl, hG4⟩; replace b7 := b7.keep hG4; replace b9 := b9.keep hG4; replace gB := gB.t hG4; have e70 := b7.cell 0; have e71 := b7.cell 1; have l7 := b7.lt; have e90 := b9.cell 0; have e91 := b9.cell 1; have l9 := b9.lt; clear HGm) | (go_at_call 28; refine (HGx.out _ gB).mono ?_; rintro e wx ⟨rfl, hG6⟩; clear e70 e71 l7 e90 e91 l9; replace b7 := b7.keep hG6; replace b9 := b9.keep hG6; replace gB := gB.t hG6; have e70 := b7.cell 0; have e71 := b7.cell 1; have l7 := b7.lt; have e90 := b9.cell 0; have e91 := b9.cell 1; have l9 := b9.lt; clear HGx) | (go_at_call 28; refine (HGy.out _ gB).mono ?_; rintro e wy ⟨rfl, hG7⟩; clear e70 e71 l7 e90 e91 l9; replace b7 := b7.keep hG7; replace b9 := b9.keep hG7; replace gB := gB.t hG7; have e70 := b7.cell 0; have e71 := b7.cell 1; have l7 := b7.lt; have e90 := b9.cell 0; have e91 := b9.cell 1; have l9 := b9.lt; clear HGy) | (go_at_call 13; refine (HWK.out _).mono ?_; rintro e wz ⟨rfl, hGz⟩))
        go_ret
        exact ⟨rfl, gB.t hGz⟩
end Go.Proofs.Ytcekdljjmfkacaa
