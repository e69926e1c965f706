import Derived.Test.YtcekdljjmfkacaaGreatOq
set_option linter.unusedSimpArgs false
set_option linter.unusedVariables false
namespace Go.Proofs.YtcekdljjmfkacaaGreat
open Go.RowKit Go.Shelf
attribute [local go_sem] Oper.semAt_some wide_fn wide_dep wideR_fn wideR_dep
theorem rIsSky_any (a b c d e f : Int) (w : World) : Calls Tryz.prog 37 #[.agg #[.int .i64 a, .int .i64 b, .int .i64 c, .int .i64 d, .int .i64 e, .int .i64 f]] w fun e' w' => e' = .returned (.bool (spanB a b 0 999 && (spanB c d 0 999 && spanB e f 0 999))) ∧ G w w' := by
  have g0 : G w (w.alloc (.cells #[.int .i64 a, .int .i64 b, .int .i64 c, .int .i64 d, .int .i64 e, .int .i64 f] 49)) := (G.rf _).a _
  have b0 := Blk.new w 49 #[.int .i64 a, .int .i64 b, .int .i64 c, .int .i64 d, .int .i64 e, .int .i64 f]
  have H1 := Lib.hid (fun W : World => rSpan6_any a b 0 999 W)
  have H2 := Lib.hid (fun W : World => rSpan6_any c d 0 999 W)
  have H3 := Lib.hid (fun W : World => rSpan6_any e f 0 999 W)
  generalize spanB a b 0 999 = A at *
  generalize spanB c d 0 999 = B at *
  generalize spanB e f 0 999 = C at *
  cases A
  · go_enter Tryz.func37, Tryz.ntmps37
    go_wp2_with (go_at_call 36; refine (H1.out _).mono ?_; rintro e' w1 ⟨rfl, hG1⟩)
    go_ret
    exact ⟨rfl, g0.t hG1⟩
  · cases B
    · go_enter Tryz.func37, Tryz.ntmps37
      go_wp2_with (first | (go_at_call 36; refine (H1.out _).mono ?_; rintro e' w1 ⟨rfl, hG1⟩; clear H1; replace b0 := b0.keep hG1; replace g0 := g0.t hG1; have m2 := b0.cell 2; have m3 := b0.cell 3; have lM := b0.lt) | (go_at_call 36; refine (H2.out _).mono ?_; rintro e' w2 ⟨rfl, hG2⟩; clear H2; replace g0 := g0.t hG2))
      go_ret
      exact ⟨rfl, g0⟩
    · go_enter Tryz.func37, Tryz.ntmps37
      go_wp2_with (first | (go_at_call 36; refine (H1.out _).mono ?_; rintro e' w1 ⟨rfl, hG1⟩; clear H1; replace b0 := b0.keep hG1; replace g0 := g0.t hG1; have m2 := b0.cell 2; have m3 := b0.cell 3; have lM := b0.lt) | (go_at_call 36; refine (H2.out _).mono ?_; rintro e' w2 ⟨rfl, hG2⟩; clear H2 m2 m3 lM; replace b0 := b0.keep hG2; replace g0 := g0.t hG2; have m4 := b0.cell 4; have m5 := b0.cell 5; have lM := b0.lt) | (go_at_call 36; refine (H3.out _).mono ?_; rintro e' w3 ⟨rfl, hG3⟩; clear H3; replace g0 := g0.t hG3))
      go_ret
      exact ⟨rfl, g0⟩
/-- a result that tells whether something is so -/
def TellPost (w : World) (p : Prop) (e : Ending) (w' : World) : Prop := ∃ b : Bool, e = .returned (.bool b) ∧ (b = true ↔ p) ∧ G w w'
section
variable (north cols lofts wrong bx bY sl sh lw lg lh hours dark : Int) (east : List Int) (svs : List Sv) (n k : Nat) (h f : Nat → Nat → Int) (ea sa ha fa : Option Addr) (ec sc hc fc : Nat) (w : World)
/-- all of a release but its fronts is valid -/
def ROk : Prop := checkE north cols east lofts svs wrong = 0 ∧ RelOk cols east.length bx bY sl sh lw lg lh hours dark n h
set_option maxRecDepth 100000 in
set_option maxHeartbeats 8000000 in
theorem refIsRelease (he : IntsAt w ea east) (hs : SvsAt w sa svs) (hl : east.length ≤ 9223372036854775807) (hl2 : svs.length ≤ 9223372036854775807) (hH : RowAt w ha n 2 h) (hn : n ≤ 9223372036854775807) :
    Calls Tryz.prog 35 #[.agg #[.int .i64 north, .int .i64 cols, .slice ea east.length ec, .int .i64 lofts, .slice sa svs.length sc, .int .i64 wrong, .int .i64 bx, .int .i64 bY, .slice ha n hc, .int .i64 sl, .int .i64 sh, .slice fa k fc, .int .i64 lw, .int .i64 lg, .int .i64 lh, .int .i64 hours, .int .i64 dark]] w (TellPost w (ROk north cols lofts wrong bx bY sl sh lw lg lh hours dark east svs n h)) := by
  have hC := Lib.hid (fun (W : World) (hW : G w W) => rCheck_any north cols lofts wrong east svs ea sa ec sc W (he.below hW) (hs.below hW) hl hl2)
  have g0 : G w (w.alloc (.cells #[.int .i64 north, .int .i64 cols, .slice ea east.length ec, .int .i64 lofts, .slice sa svs.length sc, .int .i64 wrong, .int .i64 bx, .int .i64 bY, .slice ha n hc, .int .i64 sl, .int .i64 sh, .slice fa k fc, .int .i64 lw, .int .i64 lg, .int .i64 lh, .int .i64 hours, .int .i64 dark] 35)) := (G.rf _).a _
  have b0 := Blk.new w 35 #[.int .i64 north, .int .i64 cols, .slice ea east.length ec, .int .i64 lofts, .slice sa svs.length sc, .int .i64 wrong, .int .i64 bx, .int .i64 bY, .slice ha n hc, .int .i64 sl, .int .i64 sh, .slice fa k fc, .int .i64 lw, .int .i64 lg, .int .i64 lh, .int .i64 hours, .int .i64 dark]
  have HNO : Hid (∀ w', ¬ ROk north cols lofts wrong bx bY sl sh lw lg lh hours dark east svs n h → G w w' → TellPost w (ROk north cols lofts wrong bx bY sl sh lw lg lh hours dark east svs n h) (.returned (.bool false)) w') := fun w' a b => ⟨false, rfl, ⟨fun h => (by cases h), fun h => absurd h a⟩, b⟩
  have HYES : Hid (∀ w', ROk north cols lofts wrong bx bY sl sh lw lg lh hours dark east svs n h → G w w' → TellPost w (ROk north cols lofts wrong bx bY sl sh lw lg lh hours dark east svs n h) (.returned (.bool true)) w') := fun w' a b => ⟨true, rfl, ⟨fun _ => a, fun _ => rfl⟩, b⟩
  generalize TellPost w (ROk north cols lofts wrong bx bY sl sh lw lg lh hours dark east svs n h) = PP at *
  have m0 := b0.cell 0; have m1 := b0.cell 1; have m2 := b0.cell 2; have m3 := b0.cell 3; have m4 := b0.cell 4; have m5 := b0.cell 5; have m6 := b0.cell 6; have m7 := b0.cell 7; have m8 := b0.cell 8; have lM := b0.lt
  by_cases hk : checkE north cols east lofts svs wrong = 0
  case neg =>
    have hE : (checkE north cols east lofts svs wrong == 0) = false := by simp [hk]
    have HN := Lib.hid (fun w' => HNO.out w' (fun h => hk h.1))
    clear HNO HYES
    generalize checkE north cols east lofts svs wrong = E at *
    go_enter Tryz.func35, Tryz.ntmps35
    go_wp2_with (go_at_call 74; refine (hC.out _ g0).mono ?_; rintro e w1 ⟨rfl, hG1⟩)
    exact HN.out _ (g0.t hG1)
  have hvb := vm_bounds (checkE_ok hk)
  have hcb : 0 ≤ cols ∧ cols ≤ 9223372036854775807 := by omega
  have HPl := Lib.hid (fun (x y : Int) (W : World) => rPlace_any north cols lofts wrong x y ea east.length ec (.slice sa svs.length sc) W hcb hl)
  rw [hk] at hC
  cases hb : isPlaceB cols east.length bx bY
  case false =>
    have HPb := HPl.out bx bY
    rw [hb] at HPb
    have HP2 := Lib.hid HPb
    have HN := Lib.hid (fun w' => HNO.out w' (fun h => by rw [h.2.base] at hb; cases hb))
    clear HNO HYES HPl HPb hb hvb hcb
    go_enter Tryz.func35, Tryz.ntmps35
    go_wp2_with (first | (go_at_call 74; refine (hC.out _ g0).mono ?_; rintro e w1 ⟨rfl, hG1⟩; clear m0 m1 m2 m3 m4 m5 m6 m7 m8 lM; replace b0 := b0.keep hG1; replace g0 := g0.t hG1; clear hG1; have m0 := b0.cell 0; have m1 := b0.cell 1; have m2 := b0.cell 2; have m3 := b0.cell 3; have m4 := b0.cell 4; have m5 := b0.cell 5; have m6 := b0.cell 6; have m7 := b0.cell 7; have m8 := b0.cell 8; have lM := b0.lt) | (go_at_call 53; refine (HP2.out _).mono ?_; rintro e w2 ⟨rfl, hG2⟩))
    exact HN.out _ (g0.t hG2)
  have HPb := HPl.out bx bY
  rw [hb] at HPb
  have HP2 := Lib.hid HPb
  clear HPb
  by_cases h6 : 6 < n
  · have h6i : (6 : Int) < n := by omega
    have HN := Lib.hid (fun w' => HNO.out w' (fun h => by have := h.2.many; omega))
    clear HNO HYES HPl hb hvb hcb
    go_enter Tryz.func35, Tryz.ntmps35
    go_wp2_with (first | (go_at_call 74; refine (hC.out _ g0).mono ?_; rintro e w1 ⟨rfl, hG1⟩; clear m0 m1 m2 m3 m4 m5 m6 m7 m8 lM; replace b0 := b0.keep hG1; replace g0 := g0.t hG1; clear hG1; have m0 := b0.cell 0; have m1 := b0.cell 1; have m2 := b0.cell 2; have m3 := b0.cell 3; have m4 := b0.cell 4; have m5 := b0.cell 5; have m6 := b0.cell 6; have m7 := b0.cell 7; have m8 := b0.cell 8; have lM := b0.lt) | (go_at_call 53; refine (HP2.out _).mono ?_; rintro e w2 ⟨rfl, hG2⟩; clear m0 m1 m2 m3 m4 m5 m6 m7 m8 lM; replace b0 := b0.keep hG2; replace g0 := g0.t hG2; have m0 := b0.cell 0; have m1 := b0.cell 1; have m2 := b0.cell 2; have m3 := b0.cell 3; have m4 := b0.cell 4; have m5 := b0.cell 5; have m6 := b0.cell 6; have m7 := b0.cell 7; have m8 := b0.cell 8; have lM := b0.lt))
    exact HN.out _ g0
  have h6i : ¬ (6 : Int) < n := by omega
  go_enter Tryz.func35, Tryz.ntmps35
  go_wp2_with (first | (go_at_call 74; refine (hC.out _ g0).mono ?_; rintro e w1 ⟨rfl, hG1⟩; clear m0 m1 m2 m3 m4 m5 m6 m7 m8 lM; replace b0 := b0.keep hG1; replace g0 := g0.t hG1; clear hG1; have m0 := b0.cell 0; have m1 := b0.cell 1; have m2 := b0.cell 2; have m3 := b0.cell 3; have m4 := b0.cell 4; have m5 := b0.cell 5; have m6 := b0.cell 6; have m7 := b0.cell 7; have m8 := b0.cell 8; have lM := b0.lt) | (go_at_call 53; refine (HP2.out _).mono ?_; rintro e w2 ⟨rfl, hG2⟩; clear m0 m1 m2 m3 m4 m5 m6 m7 m8 lM; replace b0 := b0.keep hG2; replace g0 := g0.t hG2; clear hG2; have m0 := b0.cell 0; have m1 := b0.cell 1; have m2 := b0.cell 2; have m3 := b0.cell 3; have m4 := b0.cell 4; have m5 := b0.cell 5; have m6 := b0.cell 6; have m7 := b0.cell 7; have m8 := b0.cell 8; have lM := b0.lt))
  clear m0 m1 m2 m3 m4 m5 m6 m7 m8 lM
  go_loopw [3] (fun i wr => ∃ q : Nat, q ≤ n ∧ i = .int .i64 q ∧ Hid (∀ j, j < q → isPlaceB cols east.length (h j 0) (h j 1) = true) ∧ Blk wr w.heap.size 35 #[.int .i64 north, .int .i64 cols, .slice ea east.length ec, .int .i64 lofts, .slice sa svs.length sc, .int .i64 wrong, .int .i64 bx, .int .i64 bY, .slice ha n hc, .int .i64 sl, .int .i64 sh, .slice fa k fc, .int .i64 lw, .int .i64 lg, .int .i64 lh, .int .i64 hours, .int .i64 dark] ∧ G w wr) (fun i _ => n - (intOf i).toNat)
  case atStart => exact ⟨0, Nat.zero_le _, rfl, fun j hj => absurd hj (Nat.not_lt_zero _), b0, g0⟩
  case round =>
    clear b0 g0
    obtain ⟨q, hq, rfl, hall, b0, g0⟩ := hrel
    obtain ⟨wo, rfl⟩ : ∃ wo, wo = wr := ⟨_, rfl⟩
    have m8 := b0.cell 8
    have lM := b0.lt
    by_cases hlt : q < n
    · have hki : (q : Int) < n := by omega
      rcases hH with hz | ⟨gH, oH, rfl, hgH, hcell⟩
      · omega
      have lH := Nat.lt_of_lt_of_le hgH g0.size
      have q0 := ((bcellB g0).1 gH _ hgH).trans (hcell q hlt 0 (by omega))
      rw [Nat.add_zero] at q0
      have q1 := ((bcellB g0).1 gH _ hgH).trans (hcell q hlt 1 (by omega))
      have HPq := Lib.hid (fun W : World => HPl.out (h q 0) (h q 1) W)
      obtain ⟨pb, hpb⟩ : ∃ pb, pb = isPlaceB cols east.length (h q 0) (h q 1) := ⟨_, rfl⟩
      rw [← hpb] at HPq
      have HPB := Lib.hid hpb
      have hSk : ∀ W', G wo W' → (Blk W' w.heap.size 35 #[.int .i64 north, .int .i64 cols, .slice ea east.length ec, .int .i64 lofts, .slice sa svs.length sc, .int .i64 wrong, .int .i64 bx, .int .i64 bY, .slice (some ⟨gH, oH, none⟩) n hc, .int .i64 sl, .int .i64 sh, .slice fa k fc, .int .i64 lw, .int .i64 lg, .int .i64 lh, .int .i64 hours, .int .i64 dark] ∧ W'.cell? ⟨gH, oH + q * 2, none⟩ = some (.int .i64 (h q 0)) ∧ W'.cell? ⟨gH, oH + q * 2 + 1, none⟩ = some (.int .i64 (h q 1))) := fun W' h => ⟨b0.keep h, ((bcellB h).1 gH _ lH).trans q0, ((bcellB h).1 gH _ lH).trans q1⟩
      clear q0 q1 hcell hpb HPl
      go_wp2_with fail
      refine wp_region_Y (S := fun W' => Blk W' w.heap.size 35 #[.int .i64 north, .int .i64 cols, .slice ea east.length ec, .int .i64 lofts, .slice sa svs.length sc, .int .i64 wrong, .int .i64 bx, .int .i64 bY, .slice (some ⟨gH, oH, none⟩) n hc, .int .i64 sl, .int .i64 sh, .slice fa k fc, .int .i64 lw, .int .i64 lg, .int .i64 lh, .int .i64 hours, .int .i64 dark] ∧ W'.cell? ⟨gH, oH + q * 2, none⟩ = some (.int .i64 (h q 0)) ∧ W'.cell? ⟨gH, oH + q * 2 + 1, none⟩ = some (.int .i64 (h q 1))) 8 9 rfl (by kernel_rfl) (hSk _ (G.rf _).d) (fun hS => ?_)
      refine wpAnyY_take (i := 0) (v := ?_) rfl (by kernel_rfl) (by kernel_rfl) (by kernel_rfl) (by kernel_rfl) (fun _ _ _ h => h) (Or.inl ⟨by kernel_rfl, ?_⟩) hS ?_
      rotate_left
      · intro w' hSw; go_simp; with_reducible rfl
      try simp only [Act.put, List.getElem_toArray, List.getElem_cons_zero, List.getElem_cons_succ, List.setIfInBounds_toArray, List.set_cons_zero, List.set_cons_succ]
      refine wpAnyY_take (i := 1) (v := ?_) rfl (by kernel_rfl) (by kernel_rfl) (by kernel_rfl) (by kernel_rfl) (fun _ _ _ h => h) (Or.inl ⟨by kernel_rfl, ?_⟩) hS ?_
      rotate_left
      · intro w' hSw; have e0 := hSw.1.cell 0; have e1 := hSw.1.cell 1; have e2 := hSw.1.cell 2; have e3 := hSw.1.cell 3; have e4 := hSw.1.cell 4; have e5 := hSw.1.cell 5; have lb := hSw.1.lt; go_simp; with_reducible rfl
      try simp only [Act.put, List.getElem_toArray, List.getElem_cons_zero, List.getElem_cons_succ, List.setIfInBounds_toArray, List.set_cons_zero, List.set_cons_succ]
      refine wpAnyY_take (i := 2) (v := ?_) rfl (by kernel_rfl) (by kernel_rfl) (by kernel_rfl) (by kernel_rfl) (fun _ _ _ h => h) (Or.inl ⟨by kernel_rfl, ?_⟩) hS ?_
      rotate_left
      · intro w' hSw; go_simp; with_reducible rfl
      try simp only [Act.put, List.getElem_toArray, List.getElem_cons_zero, List.getElem_cons_succ, List.setIfInBounds_toArray, List.set_cons_zero, List.set_cons_succ]
      refine wpAnyY_take (i := 3) (v := ?_) rfl (by kernel_rfl) (by kernel_rfl) (by kernel_rfl) (by kernel_rfl) (fun _ _ _ h => h) (Or.inl ⟨by kernel_rfl, ?_⟩) hS ?_
      rotate_left
      · intro w' hSw; have e8 := hSw.1.cell 8; have lb := hSw.1.lt; go_simp; with_reducible rfl
      try simp only [Act.put, List.getElem_toArray, List.getElem_cons_zero, List.getElem_cons_succ, List.setIfInBounds_toArray, List.set_cons_zero, List.set_cons_succ]
      refine wpAnyY_take (i := 4) (v := ?_) rfl (by kernel_rfl) (by kernel_rfl) (by kernel_rfl) (by kernel_rfl) (fun _ _ _ h => h) (Or.inl ⟨by kernel_rfl, ?_⟩) hS ?_
      rotate_left
      · intro w' hSw; go_simp; with_reducible rfl
      try simp only [Act.put, List.getElem_toArray, List.getElem_cons_zero, List.getElem_cons_succ, List.setIfInBounds_toArray, List.set_cons_zero, List.set_cons_succ]
      refine wpAnyY_take (i := 5) (v := ?_) rfl (by kernel_rfl) (by kernel_rfl) (by kernel_rfl) (by kernel_rfl) (fun _ _ _ h => h) (Or.inl ⟨by kernel_rfl, ?_⟩) hS ?_
      rotate_left
      · intro w' hSw; go_simp; with_reducible rfl
      try simp only [Act.put, List.getElem_toArray, List.getElem_cons_zero, List.getElem_cons_succ, List.setIfInBounds_toArray, List.set_cons_zero, List.set_cons_succ]
      refine wpAnyY_take (i := 6) (v := ?_) rfl (by kernel_rfl) (by kernel_rfl) (by kernel_rfl) (by kernel_rfl) (fun _ _ _ h => h) (Or.inl ⟨by kernel_rfl, ?_⟩) hS ?_
      rotate_left
      · intro w' hSw; have e0 := hSw.2.1; have e1 := hSw.2.2; go_simp; with_reducible rfl
      try simp only [Act.put, List.getElem_toArray, List.getElem_cons_zero, List.getElem_cons_succ, List.setIfInBounds_toArray, List.set_cons_zero, List.set_cons_succ]
      have ga := (G.rf wo).d
      refine wpAnyY_oneSW (i := 7) (by kernel_rfl) rfl (by kernel_rfl) (fun K7 hK7 => ?_)
      go_simp
      refine (HPq.out _).mono ?_
      rintro e w5 ⟨rfl, hG7⟩
      replace ga := ga.t hG7
      refine hK7.out _ _ (hSk _ ga) (fun hS => ?_)
      try simp only [Act.put, List.getElem_toArray, List.getElem_cons_zero, List.getElem_cons_succ, List.setIfInBounds_toArray, List.set_cons_zero, List.set_cons_succ]
      refine wpAnyY_oneW (i := 8) (by kernel_rfl) rfl (by kernel_rfl) (by kernel_rfl) (fun K8 hK8 => ?_)
      go_simp
      refine hK8.out _ _ ?_
      try simp only [Act.put, List.getElem_toArray, List.getElem_cons_zero, List.getElem_cons_succ, List.setIfInBounds_toArray, List.set_cons_zero, List.set_cons_succ]
      refine wpAnyY_done (by kernel_rfl) ?_ _
      have gz := g0.t ga
      have bz := b0.keep ga
      clear hS hSk K7 hK7 K8 hK8
      cases pb
      · have HN := Lib.hid (fun w' => HNO.out w' (fun h => by
          have := h.2.homes q hlt
          rw [← HPB.out] at this
          cases this))
        clear HNO HYES
        go_wp2_with fail
        exact HN.out _ gz
      · go_wp2_with fail
        go_roundw
        case rel => exact ⟨q + 1, by omega, by go_num, fun j hj => by
          rcases Nat.lt_or_ge j q with h1 | h1
          · exact hall.out j h1
          · obtain rfl : j = q := by omega
            exact HPB.out.symm, bz, gz⟩
        case measure => simp [intOf]; omega
    · obtain rfl : q = n := by omega
      have hki : ¬ ((q : Nat) : Int) < q := by omega
      clear HPl HP2 hC
      have R1 := Lib.hid (fun W : World => rSpan6_any sl sh 1 3000000 W)
      have R2 := Lib.hid (fun W : World => rIn6_any lw 0 999 W)
      have R3 := Lib.hid (fun W : World => rIn6_any lg 0 999 W)
      have R4 := Lib.hid (fun W : World => rIn6_any lh 0 999 W)
      have R5 := Lib.hid (fun W : World => rIn6_any hours 1 12 W)
      have R6 := Lib.hid (fun W : World => rIn6_any dark 0 9999 W)
      have HRO : Hid (ROk north cols lofts wrong bx bY sl sh lw lg lh hours dark east svs q h ↔ (spanB sl sh 1 3000000 = true ∧ isInB lw 0 999 = true ∧ isInB lg 0 999 = true ∧ isInB lh 0 999 = true ∧ isInB hours 1 12 = true ∧ isInB dark 0 9999 = true)) :=
        ⟨fun h => ⟨h.2.speed, h.2.wind, h.2.sight, h.2.heat, h.2.hrs, h.2.drk⟩, fun ⟨a, b, c, d, e, f⟩ => ⟨hk, ⟨hb, by omega, hall.out, a, b, c, d, e, f⟩⟩⟩
      clear hall
      have b4 : Blk (wo.alloc (.cells #[.int .i64 lw, .int .i64 lg, .int .i64 lh] 33)) wo.heap.size 33 #[.int .i64 lw, .int .i64 lg, .int .i64 lh] := Blk.new wo 33 _
      have bz := b0.keep ((G.rf wo).a (.cells #[.int .i64 lw, .int .i64 lg, .int .i64 lh] 33))
      have gz := g0.a (.cells #[.int .i64 lw, .int .i64 lg, .int .i64 lh] 33)
      have c12 := b0.cell 12
      have c13 := b0.cell 13
      have c14 := b0.cell 14
      have c9 := b0.cell 9
      have c10 := b0.cell 10
      clear hk hb hvb hcb
      generalize spanB sl sh 1 3000000 = A1 at *
      generalize isInB lw 0 999 = A2 at *
      generalize isInB lg 0 999 = A3 at *
      generalize isInB lh 0 999 = A4 at *
      generalize isInB hours 1 12 = A5 at *
      generalize isInB dark 0 9999 = A6 at *
      cases A1
      · have HN := Lib.hid (fun w' => HNO.out w' (fun h => by have h2 := HRO.out.1 h; simp at h2))
        clear HNO HYES HRO
        go_wp2_with (first | (go_at_call 36; refine (R1.out _).mono ?_; rintro e v0 ⟨rfl, hV0⟩; clear R1; replace bz := bz.keep hV0; replace b4 := b4.keep hV0; replace gz := gz.t hV0; clear hV0; clear c12 c13 c14 c9 c10 lM m8))
        exact HN.out _ gz
      ·
        cases A2
        · have HN := Lib.hid (fun w' => HNO.out w' (fun h => by have h2 := HRO.out.1 h; simp at h2))
          clear HNO HYES HRO
          go_wp2_with (first | (go_at_call 36; refine (R1.out _).mono ?_; rintro e v0 ⟨rfl, hV0⟩; clear R1; replace bz := bz.keep hV0; replace b4 := b4.keep hV0; replace gz := gz.t hV0; clear hV0; clear c12 c13 c14 c9 c10 lM m8; have d0 := b4.cell 0; have l0 := b4.lt) | (go_at_call 54; refine (R2.out _).mono ?_; rintro e v1 ⟨rfl, hV1⟩; clear R2; replace bz := bz.keep hV1; replace b4 := b4.keep hV1; replace gz := gz.t hV1; clear hV1; clear d0 l0))
          exact HN.out _ gz
        ·
          cases A3
          · have HN := Lib.hid (fun w' => HNO.out w' (fun h => by have h2 := HRO.out.1 h; simp at h2))
            clear HNO HYES HRO
            go_wp2_with (first | (go_at_call 36; refine (R1.out _).mono ?_; rintro e v0 ⟨rfl, hV0⟩; clear R1; replace bz := bz.keep hV0; replace b4 := b4.keep hV0; replace gz := gz.t hV0; clear hV0; clear c12 c13 c14 c9 c10 lM m8; have d0 := b4.cell 0; have l0 := b4.lt) | (go_at_call 54; refine (R2.out _).mono ?_; rintro e v1 ⟨rfl, hV1⟩; clear R2; replace bz := bz.keep hV1; replace b4 := b4.keep hV1; replace gz := gz.t hV1; clear hV1; clear d0 l0; have d0 := b4.cell 1; have l0 := b4.lt) | (go_at_call 54; refine (R3.out _).mono ?_; rintro e v2 ⟨rfl, hV2⟩; clear R3; replace bz := bz.keep hV2; replace b4 := b4.keep hV2; replace gz := gz.t hV2; clear hV2; clear d0 l0))
            exact HN.out _ gz
          ·
            cases A4
            · have HN := Lib.hid (fun w' => HNO.out w' (fun h => by have h2 := HRO.out.1 h; simp at h2))
              clear HNO HYES HRO
              go_wp2_with (first | (go_at_call 36; refine (R1.out _).mono ?_; rintro e v0 ⟨rfl, hV0⟩; clear R1; replace bz := bz.keep hV0; replace b4 := b4.keep hV0; replace gz := gz.t hV0; clear hV0; clear c12 c13 c14 c9 c10 lM m8; have d0 := b4.cell 0; have l0 := b4.lt) | (go_at_call 54; refine (R2.out _).mono ?_; rintro e v1 ⟨rfl, hV1⟩; clear R2; replace bz := bz.keep hV1; replace b4 := b4.keep hV1; replace gz := gz.t hV1; clear hV1; clear d0 l0; have d0 := b4.cell 1; have l0 := b4.lt) | (go_at_call 54; refine (R3.out _).mono ?_; rintro e v2 ⟨rfl, hV2⟩; clear R3; replace bz := bz.keep hV2; replace b4 := b4.keep hV2; replace gz := gz.t hV2; clear hV2; clear d0 l0; have d0 := b4.cell 2; have l0 := b4.lt) | (go_at_call 54; refine (R4.out _).mono ?_; rintro e v3 ⟨rfl, hV3⟩; clear R4; replace bz := bz.keep hV3; replace b4 := b4.keep hV3; replace gz := gz.t hV3; clear hV3; clear d0 l0))
              exact HN.out _ gz
            ·
              cases A5
              · have HN := Lib.hid (fun w' => HNO.out w' (fun h => by have h2 := HRO.out.1 h; simp at h2))
                clear HNO HYES HRO
                go_wp2_with (first | (go_at_call 36; refine (R1.out _).mono ?_; rintro e v0 ⟨rfl, hV0⟩; clear R1; replace bz := bz.keep hV0; replace b4 := b4.keep hV0; replace gz := gz.t hV0; clear hV0; clear c12 c13 c14 c9 c10 lM m8; have d0 := b4.cell 0; have l0 := b4.lt) | (go_at_call 54; refine (R2.out _).mono ?_; rintro e v1 ⟨rfl, hV1⟩; clear R2; replace bz := bz.keep hV1; replace b4 := b4.keep hV1; replace gz := gz.t hV1; clear hV1; clear d0 l0; have d0 := b4.cell 1; have l0 := b4.lt) | (go_at_call 54; refine (R3.out _).mono ?_; rintro e v2 ⟨rfl, hV2⟩; clear R3; replace bz := bz.keep hV2; replace b4 := b4.keep hV2; replace gz := gz.t hV2; clear hV2; clear d0 l0; have d0 := b4.cell 2; have l0 := b4.lt) | (go_at_call 54; refine (R4.out _).mono ?_; rintro e v3 ⟨rfl, hV3⟩; clear R4; replace bz := bz.keep hV3; replace b4 := b4.keep hV3; replace gz := gz.t hV3; clear hV3; clear d0 l0; have d0 := bz.cell 15; have l0 := bz.lt) | (go_at_call 54; refine (R5.out _).mono ?_; rintro e v4 ⟨rfl, hV4⟩; clear R5; replace bz := bz.keep hV4; replace b4 := b4.keep hV4; replace gz := gz.t hV4; clear hV4; clear d0 l0))
                exact HN.out _ gz
              ·
                cases A6
                · have HN := Lib.hid (fun w' => HNO.out w' (fun h => by have h2 := HRO.out.1 h; simp at h2))
                  clear HNO HYES HRO
                  go_wp2_with (first | (go_at_call 36; refine (R1.out _).mono ?_; rintro e v0 ⟨rfl, hV0⟩; clear R1; replace bz := bz.keep hV0; replace b4 := b4.keep hV0; replace gz := gz.t hV0; clear hV0; clear c12 c13 c14 c9 c10 lM m8; have d0 := b4.cell 0; have l0 := b4.lt) | (go_at_call 54; refine (R2.out _).mono ?_; rintro e v1 ⟨rfl, hV1⟩; clear R2; replace bz := bz.keep hV1; replace b4 := b4.keep hV1; replace gz := gz.t hV1; clear hV1; clear d0 l0; have d0 := b4.cell 1; have l0 := b4.lt) | (go_at_call 54; refine (R3.out _).mono ?_; rintro e v2 ⟨rfl, hV2⟩; clear R3; replace bz := bz.keep hV2; replace b4 := b4.keep hV2; replace gz := gz.t hV2; clear hV2; clear d0 l0; have d0 := b4.cell 2; have l0 := b4.lt) | (go_at_call 54; refine (R4.out _).mono ?_; rintro e v3 ⟨rfl, hV3⟩; clear R4; replace bz := bz.keep hV3; replace b4 := b4.keep hV3; replace gz := gz.t hV3; clear hV3; clear d0 l0; have d0 := bz.cell 15; have l0 := bz.lt) | (go_at_call 54; refine (R5.out _).mono ?_; rintro e v4 ⟨rfl, hV4⟩; clear R5; replace bz := bz.keep hV4; replace b4 := b4.keep hV4; replace gz := gz.t hV4; clear hV4; clear d0 l0; have d0 := bz.cell 16; have l0 := bz.lt) | (go_at_call 54; refine (R6.out _).mono ?_; rintro e v5 ⟨rfl, hV5⟩; clear R6; replace bz := bz.keep hV5; replace b4 := b4.keep hV5; replace gz := gz.t hV5; clear hV5; clear d0 l0))
                  exact HN.out _ gz
                ·
                  have HN := Lib.hid (fun w' => HYES.out w' (HRO.out.2 ⟨rfl, rfl, rfl, rfl, rfl, rfl⟩))
                  clear HNO HYES HRO
                  go_wp2_with (first | (go_at_call 36; refine (R1.out _).mono ?_; rintro e v0 ⟨rfl, hV0⟩; clear R1; replace bz := bz.keep hV0; replace b4 := b4.keep hV0; replace gz := gz.t hV0; clear hV0; clear c12 c13 c14 c9 c10 lM m8; have d0 := b4.cell 0; have l0 := b4.lt) | (go_at_call 54; refine (R2.out _).mono ?_; rintro e v1 ⟨rfl, hV1⟩; clear R2; replace bz := bz.keep hV1; replace b4 := b4.keep hV1; replace gz := gz.t hV1; clear hV1; clear d0 l0; have d0 := b4.cell 1; have l0 := b4.lt) | (go_at_call 54; refine (R3.out _).mono ?_; rintro e v2 ⟨rfl, hV2⟩; clear R3; replace bz := bz.keep hV2; replace b4 := b4.keep hV2; replace gz := gz.t hV2; clear hV2; clear d0 l0; have d0 := b4.cell 2; have l0 := b4.lt) | (go_at_call 54; refine (R4.out _).mono ?_; rintro e v3 ⟨rfl, hV3⟩; clear R4; replace bz := bz.keep hV3; replace b4 := b4.keep hV3; replace gz := gz.t hV3; clear hV3; clear d0 l0; have d0 := bz.cell 15; have l0 := bz.lt) | (go_at_call 54; refine (R5.out _).mono ?_; rintro e v4 ⟨rfl, hV4⟩; clear R5; replace bz := bz.keep hV4; replace b4 := b4.keep hV4; replace gz := gz.t hV4; clear hV4; clear d0 l0; have d0 := bz.cell 16; have l0 := bz.lt) | (go_at_call 54; refine (R6.out _).mono ?_; rintro e v5 ⟨rfl, hV5⟩; clear R6; replace bz := bz.keep hV5; replace b4 := b4.keep hV5; replace gz := gz.t hV5; clear hV5; clear d0 l0))
                  exact HN.out _ gz
end
end Go.Proofs.YtcekdljjmfkacaaGreat
