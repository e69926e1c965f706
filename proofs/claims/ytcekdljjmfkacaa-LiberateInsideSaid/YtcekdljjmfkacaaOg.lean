import Derived.Test.YtcekdljjmfkacaaOf
set_option linter.unusedSimpArgs false
set_option linter.unusedVariables false
namespace Go.Proofs.Ytcekdljjmfkacaa
open Go.RowKit Go.Shelf
attribute [local go_sem] Oper.semAt_some wide_fn wide_dep wideR_fn wideR_dep
theorem rIn6_any (n lo hi : Int) (w : World) : Calls Try.prog 54 #[.int .i64 n, .int .i64 lo, .int .i64 hi] w fun e w' => e = .returned (.bool (isInB n lo hi)) ∧ G w w' := by
  by_cases h1 : lo ≤ n
  · go_enter Try.func54, Try.ntmps54
    go_wp2
    go_ret
    exact ⟨by simp [isInB, h1], G.rf _⟩
  · go_enter Try.func54, Try.ntmps54
    go_wp2
    go_ret
    exact ⟨by unfold isInB; rw [decide_eq_false (by omega)]; rfl, G.rf _⟩
theorem rSpan6_any (lo hi a b : Int) (w : World) : Calls Try.prog 50 #[.agg #[.int .i64 lo, .int .i64 hi], .int .i64 a, .int .i64 b] w fun e w' => e = .returned (.bool (spanB lo hi a b)) ∧ G w w' := by
  by_cases h1 : a ≤ lo
  · by_cases h2 : lo ≤ hi
    · have HV : Hid (spanB lo hi a b = decide (hi ≤ b)) := by unfold spanB Hid; simp [h1, h2]
      go_enter Try.func50, Try.ntmps50
      go_wp2
      go_ret
      exact ⟨by rw [HV.out]; rfl, (G.rf _).a _⟩
    · have HV : Hid (spanB lo hi a b = false) := by unfold spanB Hid; simp [h2]
      go_enter Try.func50, Try.ntmps50
      go_wp2
      go_ret
      exact ⟨by rw [HV.out]; rfl, (G.rf _).a _⟩
  · have HV : Hid (spanB lo hi a b = false) := by unfold spanB Hid; simp [h1]
    go_enter Try.func50, Try.ntmps50
    go_wp2
    go_ret
    exact ⟨by rw [HV.out]; rfl, (G.rf _).a _⟩
theorem lawIn_any (n lo hi : Int) (w : World) : Calls Try.prog 18 #[.int .i64 n, .agg #[.int .i64 lo, .int .i64 hi]] w fun e w' => e = .returned (.bool (isInB n lo hi)) ∧ G w w' := by
  by_cases h1 : lo ≤ n
  · go_enter Try.func18, Try.ntmps18
    go_wp2
    go_ret
    exact ⟨by simp [isInB, h1], (G.rf _).a _⟩
  · go_enter Try.func18, Try.ntmps18
    go_wp2
    go_ret
    exact ⟨by unfold isInB; rw [decide_eq_false (by omega)]; rfl, (G.rf _).a _⟩
section
variable (a : Option Addr) (cap n : Nat) (c : Nat → Nat → Int) (wrong mi : Int) (w : World)
set_option maxRecDepth 100000 in
set_option maxHeartbeats 4000000 in
theorem against_any (ha : RowAt w a n 2 c) (hn : n ≤ 1000) : Calls Try.prog 28 #[.slice a n cap, .int .i64 mi] w fun e w' => e = .returned (.int .i64 (agN c mi n : Nat)) ∧ G w w' := by
  have HI := Lib.hid (fun (x y z : Int) (W : World) => rIn6_any x y z W)
  go_enter Try.func28, Try.ntmps28
  go_wp2_with fail
  go_loopw [5, 6] (fun v i wr => ∃ q : Nat, q ≤ n ∧ i = .int .i64 q ∧ v = .int .i64 (agN c mi q : Nat) ∧ G w wr) (fun _ i _ => n - (intOf i).toNat)
  case atStart => exact ⟨0, Nat.zero_le _, rfl, rfl, G.rf _⟩
  case round =>
    obtain ⟨q, hq, rfl, rfl, hG⟩ := hrel
    obtain ⟨wo, rfl⟩ : ∃ wo, wo = wr := ⟨_, rfl⟩
    by_cases hlt : q < n
    · have hki : (q : Int) < n := by omega
      rcases ha with h | ⟨g, off, rfl, hg, hcell⟩
      · omega
      have q0 := ((bcellB hG).1 g _ hg).trans (hcell q hlt 0 (by omega))
      rw [Nat.add_zero] at q0
      have q1 := ((bcellB hG).1 g _ hg).trans (hcell q hlt 1 (by omega))
      have lg := Nat.lt_of_lt_of_le hg hG.size
      have hs := agN_succ c mi q
      have hle := agN_le c mi q
      obtain ⟨k, hk⟩ : ∃ k, k = agN c mi q := ⟨_, rfl⟩
      rw [← hk] at hs hle ⊢
      have x1 : IntKind.i64.wrap ((k : Int) + 1) = ((k + 1 : Nat) : Int) := by rw [IntWalk.i64_in _ (by omega)]; rfl
      have HI2 := fun W : World => HI.out mi (c q 0) (c q 1) W
      clear hk hcell
      have hSk : ∀ W', G wo W' → (W'.cell? ⟨g, off + q * 2, none⟩ = some (.int .i64 (c q 0)) ∧ W'.cell? ⟨g, off + q * 2 + 1, none⟩ = some (.int .i64 (c q 1))) := fun W' h => ⟨((bcellB h).1 g _ lg).trans q0, ((bcellB h).1 g _ lg).trans q1⟩
      clear q0 q1
      obtain ⟨b, hb⟩ : ∃ b, b = isInB mi (c q 0) (c q 1) := ⟨_, rfl⟩
      rw [← hb] at hs HI2
      have HS := Lib.hid hs
      have HI3 := Lib.hid HI2
      clear hs hb HI2
      go_wp2_with fail
      refine wp_region_Y (S := fun W' => (W'.cell? ⟨g, off + q * 2, none⟩ = some (.int .i64 (c q 0)) ∧ W'.cell? ⟨g, off + q * 2 + 1, none⟩ = some (.int .i64 (c q 1)))) 12 13 rfl (by kernel_rfl) (hSk _ (G.rf _).d) (fun hS => ?_)
      have ga := (G.rf wo).d
      refine wpAnyY_take (i := 0) (v := ?_) rfl (by kernel_rfl) (by kernel_rfl) (by kernel_rfl) (by kernel_rfl) (fun _ _ _ h => h) (Or.inl ⟨by kernel_rfl, ?_⟩) hS ?_
      rotate_left
      · intro w' hSw; go_simp; with_reducible rfl
      try simp only [Act.put, List.getElem_toArray, List.getElem_cons_zero, List.getElem_cons_succ, List.setIfInBounds_toArray, List.set_cons_zero, List.set_cons_succ]
      refine wpAnyY_take (i := 1) (v := ?_) rfl (by kernel_rfl) (by kernel_rfl) (by kernel_rfl) (by kernel_rfl) (fun _ _ _ h => h) (Or.inl ⟨by kernel_rfl, ?_⟩) hS ?_
      rotate_left
      · intro w' hSw; go_simp; with_reducible rfl
      try simp only [Act.put, List.getElem_toArray, List.getElem_cons_zero, List.getElem_cons_succ, List.setIfInBounds_toArray, List.set_cons_zero, List.set_cons_succ]
      refine wpAnyY_take (i := 2) (v := ?_) rfl (by kernel_rfl) (by kernel_rfl) (by kernel_rfl) (by kernel_rfl) (fun _ _ _ h => h) (Or.inl ⟨by kernel_rfl, ?_⟩) hS ?_
      rotate_left
      · intro w' hSw; go_simp; with_reducible rfl
      try simp only [Act.put, List.getElem_toArray, List.getElem_cons_zero, List.getElem_cons_succ, List.setIfInBounds_toArray, List.set_cons_zero, List.set_cons_succ]
      refine wpAnyY_take (i := 3) (v := ?_) rfl (by kernel_rfl) (by kernel_rfl) (by kernel_rfl) (by kernel_rfl) (fun _ _ _ h => h) (Or.inl ⟨by kernel_rfl, ?_⟩) hS ?_
      rotate_left
      · intro w' hSw; go_simp; with_reducible rfl
      try simp only [Act.put, List.getElem_toArray, List.getElem_cons_zero, List.getElem_cons_succ, List.setIfInBounds_toArray, List.set_cons_zero, List.set_cons_succ]
      refine wpAnyY_take (i := 4) (v := ?_) rfl (by kernel_rfl) (by kernel_rfl) (by kernel_rfl) (by kernel_rfl) (fun _ _ _ h => h) (Or.inl ⟨by kernel_rfl, ?_⟩) hS ?_
      rotate_left
      · intro w' hSw; go_simp; with_reducible rfl
      try simp only [Act.put, List.getElem_toArray, List.getElem_cons_zero, List.getElem_cons_succ, List.setIfInBounds_toArray, List.set_cons_zero, List.set_cons_succ]
      refine wpAnyY_take (i := 5) (v := ?_) rfl (by kernel_rfl) (by kernel_rfl) (by kernel_rfl) (by kernel_rfl) (fun _ _ _ h => h) (Or.inl ⟨by kernel_rfl, ?_⟩) hS ?_
      rotate_left
      · intro w' hSw; obtain ⟨y0, y1⟩ := hSw; go_simp; with_reducible rfl
      try simp only [Act.put, List.getElem_toArray, List.getElem_cons_zero, List.getElem_cons_succ, List.setIfInBounds_toArray, List.set_cons_zero, List.set_cons_succ]
      refine wpAnyY_take (i := 6) (v := ?_) rfl (by kernel_rfl) (by kernel_rfl) (by kernel_rfl) (by kernel_rfl) (fun _ _ _ h => h) (Or.inl ⟨by kernel_rfl, ?_⟩) hS ?_
      rotate_left
      · intro w' hSw; go_simp; with_reducible rfl
      try simp only [Act.put, List.getElem_toArray, List.getElem_cons_zero, List.getElem_cons_succ, List.setIfInBounds_toArray, List.set_cons_zero, List.set_cons_succ]
      refine wpAnyY_take (i := 7) (v := ?_) rfl (by kernel_rfl) (by kernel_rfl) (by kernel_rfl) (by kernel_rfl) (fun _ _ _ h => h) (Or.inl ⟨by kernel_rfl, ?_⟩) hS ?_
      rotate_left
      · intro w' hSw; go_simp; with_reducible rfl
      try simp only [Act.put, List.getElem_toArray, List.getElem_cons_zero, List.getElem_cons_succ, List.setIfInBounds_toArray, List.set_cons_zero, List.set_cons_succ]
      refine wpAnyY_take (i := 8) (v := ?_) rfl (by kernel_rfl) (by kernel_rfl) (by kernel_rfl) (by kernel_rfl) (fun _ _ _ h => h) (Or.inl ⟨by kernel_rfl, ?_⟩) hS ?_
      rotate_left
      · intro w' hSw; go_simp; with_reducible rfl
      try simp only [Act.put, List.getElem_toArray, List.getElem_cons_zero, List.getElem_cons_succ, List.setIfInBounds_toArray, List.set_cons_zero, List.set_cons_succ]
      refine wpAnyY_take (i := 9) (v := ?_) rfl (by kernel_rfl) (by kernel_rfl) (by kernel_rfl) (by kernel_rfl) (fun _ _ _ h => h) (Or.inl ⟨by kernel_rfl, ?_⟩) hS ?_
      rotate_left
      · intro w' hSw; go_simp; with_reducible rfl
      try simp only [Act.put, List.getElem_toArray, List.getElem_cons_zero, List.getElem_cons_succ, List.setIfInBounds_toArray, List.set_cons_zero, List.set_cons_succ]
      refine wpAnyY_take (i := 10) (v := ?_) rfl (by kernel_rfl) (by kernel_rfl) (by kernel_rfl) (by kernel_rfl) (fun _ _ _ h => h) (Or.inl ⟨by kernel_rfl, ?_⟩) hS ?_
      rotate_left
      · intro w' hSw; obtain ⟨y0, y1⟩ := hSw; go_simp; with_reducible rfl
      try simp only [Act.put, List.getElem_toArray, List.getElem_cons_zero, List.getElem_cons_succ, List.setIfInBounds_toArray, List.set_cons_zero, List.set_cons_succ]
      refine wpAnyY_oneSW (i := 11) (by kernel_rfl) rfl (by kernel_rfl) (fun K11 hK11 => ?_)
      go_simp
      refine (HI3.out _).mono ?_
      rintro e w5 ⟨rfl, hG11⟩
      replace ga := ga.t hG11
      refine hK11.out _ _ (hSk _ ga) (fun hS => ?_)
      try simp only [Act.put, List.getElem_toArray, List.getElem_cons_zero, List.getElem_cons_succ, List.setIfInBounds_toArray, List.set_cons_zero, List.set_cons_succ]
      refine wpAnyY_oneW (i := 12) (by kernel_rfl) rfl (by kernel_rfl) (by kernel_rfl) (fun K12 hK12 => ?_)
      go_simp
      refine hK12.out _ _ ?_
      try simp only [Act.put, List.getElem_toArray, List.getElem_cons_zero, List.getElem_cons_succ, List.setIfInBounds_toArray, List.set_cons_zero, List.set_cons_succ]
      refine wpAnyY_done (by kernel_rfl) ?_ _
      have gz := hG.t ga
      clear hSk hS K11 hK11 HI3 K12 hK12
      cases b
      · go_wp2_with fail
        go_roundw
        case rel => exact ⟨q + 1, by omega, by go_num, by rw [HS.out]; simp, gz⟩
        case measure => simp [intOf]; omega
      · go_wp2_with fail
        go_roundw
        case rel => exact ⟨q + 1, by omega, by go_num, by rw [HS.out]; simp, gz⟩
        case measure => simp [intOf]; omega
    · obtain rfl : q = n := by omega
      have hki : ¬ ((q : Nat) : Int) < q := by omega
      go_wp2_with fail
      go_ret
      exact ⟨rfl, hG⟩
/-- the watches are valid, as the reference asks it -/
def watOk (n : Nat) (c : Nat → Nat → Int) (wrong : Int) : Bool := !anyU (fun i => !spanB (c i 0) (c i 1) 0 9999) n && (isInB n 1 8 && isInB wrong 0 8)
theorem watOk_eq (n : Nat) (c : Nat → Nat → Int) (wrong : Int) : (watchB n c && isInB wrong 0 8) = watOk n c wrong := by
  unfold watchB watOk
  cases isInB n 1 8 <;> cases isInB wrong 0 8 <;> cases anyU (fun i => !spanB (c i 0) (c i 1) 0 9999) n <;> rfl
set_option maxRecDepth 100000 in
set_option maxHeartbeats 4000000 in
theorem areWatches_any (ha : RowAt w a n 2 c) (hn : n ≤ 9223372036854775807) : Calls Try.prog 26 #[.slice a n cap, .int .i64 wrong] w fun e w' => e = .returned (.bool (watOk n c wrong)) ∧ G w w' := by
  have HI := Lib.hid (fun (x y z : Int) (W : World) => rIn6_any x y z W)
  have HSp := Lib.hid (fun (x y z u : Int) (W : World) => rSpan6_any x y z u W)
  have HW : Hid (watOk n c wrong = (!anyU (fun i => !spanB (c i 0) (c i 1) 0 9999) n && (isInB n 1 8 && isInB wrong 0 8))) := rfl
  generalize watOk n c wrong = R at *
  go_enter Try.func26, Try.ntmps26
  go_wp2_with fail
  go_loopw [5] (fun i wr => ∃ q : Nat, q ≤ n ∧ i = .int .i64 q ∧ Hid (∀ j, j < q → (!spanB (c j 0) (c j 1) 0 9999) = false) ∧ G w wr) (fun i _ => n - (intOf i).toNat)
  case atStart => exact ⟨0, Nat.zero_le _, rfl, fun j hj => absurd hj (Nat.not_lt_zero _), G.rf _⟩
  case round =>
    obtain ⟨q, hq, rfl, hno, hG⟩ := hrel
    obtain ⟨wo, rfl⟩ : ∃ wo, wo = wr := ⟨_, rfl⟩
    by_cases hlt : q < n
    · have hki : (q : Int) < n := by omega
      rcases ha with h | ⟨g, off, rfl, hg, hcell⟩
      · omega
      have q0 := ((bcellB hG).1 g _ hg).trans (hcell q hlt 0 (by omega))
      rw [Nat.add_zero] at q0
      have q1 := ((bcellB hG).1 g _ hg).trans (hcell q hlt 1 (by omega))
      have lg := Nat.lt_of_lt_of_le hg hG.size
      have HS2 := fun W : World => HSp.out (c q 0) (c q 1) 0 9999 W
      clear hcell
      cases hb : spanB (c q 0) (c q 1) 0 9999
      · have hyes := anyU_yes (p := fun i => !spanB (c i 0) (c i 1) 0 9999) hlt (by simp [hb])
        have hr : R = false := by rw [HW.out, hyes]; rfl
        have HR := Lib.hid hr
        rw [hb] at HS2
        have HS3 := Lib.hid HS2
        clear hyes hr hb HS2
        go_wp2_with (go_at_call 50; refine (HS3.out _).mono ?_; rintro e w5 ⟨rfl, hG5⟩)
        go_ret
        exact ⟨by rw [HR.out]; rfl, hG.t hG5⟩
      · rw [hb] at HS2
        have HS3 := Lib.hid HS2
        have HB := Lib.hid hb
        clear hb HS2
        go_wp2_with (go_at_call 50; refine (HS3.out _).mono ?_; rintro e w5 ⟨rfl, hG5⟩)
        go_roundw
        case rel => exact ⟨q + 1, by omega, by go_num, fun j hj => by
          rcases Nat.lt_or_ge j q with h | h
          · exact hno.out j h
          · obtain rfl : j = q := by omega
            rw [HB.out]; rfl, hG.t hG5⟩
        case measure => simp [intOf]; omega
    · obtain rfl : q = n := by omega
      have hki : ¬ ((q : Nat) : Int) < q := by omega
      have hno' := anyU_no (p := fun i => !spanB (c i 0) (c i 1) 0 9999) hno.out
      have hr : R = (isInB q 1 8 && isInB wrong 0 8) := by rw [HW.out, hno']; rfl
      have HR := Lib.hid hr
      have HI2 := Lib.hid (fun W : World => HI.out (q : Int) 1 8 W)
      have HI3 := Lib.hid (fun W : World => HI.out wrong 0 8 W)
      clear hr hno' HW HI
      generalize isInB (q : Int) 1 8 = A at *
      generalize isInB wrong 0 8 = B at *
      cases A
      · go_wp2_with (go_at_call 54; refine (HI2.out _).mono ?_; rintro e w5 ⟨rfl, hG5⟩)
        go_ret
        exact ⟨by rw [HR.out]; rfl, hG.t hG5⟩
      · go_wp2_with (first | (go_at_call 54; refine (HI2.out _).mono ?_; rintro e w5 ⟨rfl, hG5⟩; clear HI2) | (go_at_call 54; refine (HI3.out _).mono ?_; rintro e w6 ⟨rfl, hG6⟩))
        go_ret
        exact ⟨by rw [HR.out]; rfl, (hG.t hG5).t hG6⟩
theorem Minute_any (ha : RowAt w a n 2 c) : Calls Try.prog 27 #[.slice a n cap, .int .i64 wrong] w fun e w' => e = .returned (minR n c wrong) ∧ G w w' := by
  cases hv : watchB n c
  · have HR : Hid (minR n c wrong = .tuple #[.agg #[.int .i64 0, .int .i64 0], .int .i64 62]) := by unfold minR Hid; rw [hv]; rfl
    have HV := Lib.hid (fun (W : World) (hW : G w W) => by have h := validWatches_any a cap n c W (ha.below hW); rw [hv] at h; exact h)
    have g0 : G w (w.alloc (.cells #[.int .i64 0, .int .i64 0] 30)) := (G.rf _).a _
    have b0 := Blk.new w 30 #[.int .i64 0, .int .i64 0]
    generalize minR n c wrong = RR at *
    clear hv ha
    go_enter Try.func27, Try.ntmps27
    go_wp2_with (go_at_call 55; refine (HV.out _ g0).mono ?_; rintro e w1 ⟨rfl, hG1⟩; replace b0 := b0.keep hG1; have f0 := b0.cell 0; have f1 := b0.cell 1; have z0 := b0.frozen 0; have z1 := b0.frozen 1; have l0 := b0.lt)
    have hb2 : Blk ((w1.setCell ⟨w.heap.size, 0, none⟩ (.int .i64 0)).setCell ⟨w.heap.size, 1, none⟩ (.int .i64 0)) w.heap.size 30 #[.int .i64 0, .int .i64 0] := (b0.set_ 0 _).set_ 1 _
    exact bodyPost_ret (resMin _ _ w.heap.size 0 0 62 rfl rfl (hb2.cell 0) (hb2.cell 1)) rfl ⟨by rw [HR.out], ((g0.t hG1).s (p := ⟨w.heap.size, 0, none⟩) (Nat.le_refl _) _).s (p := ⟨w.heap.size, 1, none⟩) (Nat.le_refl _) _⟩
  · cases hw : isInB wrong 0 8
    · have HR : Hid (minR n c wrong = .tuple #[.agg #[.int .i64 0, .int .i64 0], .int .i64 62]) := by unfold minR Hid; rw [hv, hw]; rfl
      have HV := Lib.hid (fun (W : World) (hW : G w W) => by have h := validWatches_any a cap n c W (ha.below hW); rw [hv] at h; exact h)
      have HU := Lib.hid (fun W : World => by have h := lUpTo_any wrong 8 W; rw [hw] at h; exact h)
      have g0 : G w (w.alloc (.cells #[.int .i64 0, .int .i64 0] 30)) := (G.rf _).a _
      have b0 := Blk.new w 30 #[.int .i64 0, .int .i64 0]
      generalize minR n c wrong = RR at *
      clear hv hw ha
      go_enter Try.func27, Try.ntmps27
      go_wp2_with (first | (go_at_call 55; refine (HV.out _ g0).mono ?_; rintro e w1 ⟨rfl, hG1⟩; replace b0 := b0.keep hG1) | (go_at_call 45; refine (HU.out _).mono ?_; rintro e w2 ⟨rfl, hG2⟩; replace b0 := b0.keep hG2; have f0 := b0.cell 0; have f1 := b0.cell 1; have z0 := b0.frozen 0; have z1 := b0.frozen 1; have l0 := b0.lt))
      have hb2 : Blk ((w2.setCell ⟨w.heap.size, 0, none⟩ (.int .i64 0)).setCell ⟨w.heap.size, 1, none⟩ (.int .i64 0)) w.heap.size 30 #[.int .i64 0, .int .i64 0] := (b0.set_ 0 _).set_ 1 _
      exact bodyPost_ret (resMin _ _ w.heap.size 0 0 62 rfl rfl (hb2.cell 0) (hb2.cell 1)) rfl ⟨by rw [HR.out], (((g0.t hG1).t hG2).s (p := ⟨w.heap.size, 0, none⟩) (Nat.le_refl _) _).s (p := ⟨w.heap.size, 1, none⟩) (Nat.le_refl _) _⟩
    · exact Minute_ok a cap n c wrong w ha hv hw
end
end Go.Proofs.Ytcekdljjmfkacaa
