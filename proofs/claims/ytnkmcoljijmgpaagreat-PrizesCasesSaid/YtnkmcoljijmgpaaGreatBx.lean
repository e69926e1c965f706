import Derived.Test.YtnkmcoljijmgpaaGreatRz
set_option linter.unusedSimpArgs false
set_option linter.unusedVariables false
namespace Go.Proofs.YtnkmcoljijmgpaaGreat
open Go.RowKit Go.Shelf Go.Sort Go.Maps
attribute [local go_sem] Oper.semAt_some
/-- pool number k of a racer is not as it must be -/
def badP (np : Nat) (l : List Int) (k : Nat) : Bool := !isInB (l.getD k 0) 0 ((np : Int) - 1) || (decide (0 < k) && decide (l.getD k 0 ≤ l.getD (k - 1) 0))
theorem racerB_bad {np : Nat} {x : Rc} {k : Nat} (hk : k < x.pools.length) (h : badP np x.pools k = true) : racerB np x = false := by
  unfold racerB
  have h2 : (ascB x.pools && allU (fun i => isInB (x.pools.getD i 0) 0 ((np : Int) - 1)) x.pools.length) = false := by
    cases hq : (ascB x.pools && allU (fun i => isInB (x.pools.getD i 0) 0 ((np : Int) - 1)) x.pools.length)
    · rfl
    · simp only [Bool.and_eq_true] at hq
      have a := allU_iff.1 hq.2 k hk
      have b := allU_iff.1 hq.1 k hk
      unfold badP at h
      rw [a] at h
      simp only [Bool.not_true, Bool.false_or, Bool.and_eq_true, decide_eq_true_eq] at h
      simp only [Bool.or_eq_true, decide_eq_true_eq] at b
      omega
  rw [h2]
  simp
theorem racerB_good {np : Nat} {x : Rc} (h : ∀ k, k < x.pools.length → badP np x.pools k = false) : racerB np x = (isInB x.bird 0 9999 && (isInB x.owner 0 99 && rankB x)) := by
  unfold racerB
  have h1 : ascB x.pools = true := allU_iff.2 fun k hk => by
    have := h k hk
    unfold badP at this
    simp only [Bool.or_eq_false_iff, Bool.and_eq_false_iff, decide_eq_false_iff_not] at this
    simp only [Bool.or_eq_true, decide_eq_true_eq]
    omega
  have h2 : allU (fun i => isInB (x.pools.getD i 0) 0 ((np : Int) - 1)) x.pools.length = true := allU_iff.2 fun k hk => by
    have := h k hk
    unfold badP at this
    simp only [Bool.or_eq_false_iff, Bool.not_eq_false'] at this
    exact this.1
  rw [h1, h2]
  simp
theorem rankB_home (x : Rc) : rankB x = (isInB x.rank 1 12 && isInB x.day 1 2 || (decide (x.rank = 0) && decide (x.day = 0))) := by
  unfold rankB isInB
  by_cases h : x.day = 0
  · rw [if_pos h, h]
    simp
  · rw [if_neg h]
    simp only [h, decide_false, Bool.and_false, Bool.or_false]
    rw [Bool.and_comm]
set_option maxRecDepth 100000 in
set_option maxHeartbeats 8000000 in
theorem isRacer_any (x : Rc) (np : Nat) (w : World) (h : IntsAt w x.pa x.pools) (hl : x.pools.length ≤ 1000) (hp : np ≤ 1000) : Calls Tryz.prog 42 #[.agg x.v, .int .i64 np] w fun e w' => e = .returned (.bool (racerB np x)) ∧ G w w' := by
  have HBAD := Lib.hid (fun (k : Nat) (hk : k < x.pools.length) (hb : badP np x.pools k = true) => racerB_bad hk hb)
  have HGOOD := Lib.hid (fun (hh : ∀ k, k < x.pools.length → badP np x.pools k = false) => (racerB_good hh).trans (by rw [rankB_home]))
  have HF : Hid (∀ W', racerB np x = false → G w W' → ((Ending.returned (.bool false) = .returned (.bool (racerB np x))) ∧ G w W')) := fun W' a b => ⟨by rw [a], b⟩
  obtain ⟨zbird, zowner, zrank, zday, zpa, zpc, zpools⟩ := x
  unfold Rc.v
  dsimp only at *
  generalize racerB np ⟨zbird, zowner, zrank, zday, zpa, zpc, zpools⟩ = RB at *
  have g0 : G w (w.alloc (.cells #[.int .i64 zbird, .int .i64 zowner, .int .i64 zrank, .int .i64 zday, .slice zpa zpools.length zpc] 60)) := (G.rf _).a _
  have b0 : Blk (w.alloc (.cells #[.int .i64 zbird, .int .i64 zowner, .int .i64 zrank, .int .i64 zday, .slice zpa zpools.length zpc] 60)) w.heap.size 60 #[.int .i64 zbird, .int .i64 zowner, .int .i64 zrank, .int .i64 zday, .slice zpa zpools.length zpc] := Blk.new _ _ _
  have h0 := h.below g0
  clear h
  have x0 : IntKind.i64.wrap ((np : Int) - 1) = (np : Int) - 1 := IntWalk.i64_in _ (by omega)
  go_enter Tryz.func42, Tryz.ntmps42
  go_upto_region 1 with fail
  change Code.wp _ _ _ _ (w.alloc (.cells #[.int .i64 zbird, .int .i64 zowner, .int .i64 zrank, .int .i64 zday, .slice zpa zpools.length zpc] 60))
  generalize w.alloc (.cells #[.int .i64 zbird, .int .i64 zowner, .int .i64 zrank, .int .i64 zday, .slice zpa zpools.length zpc] 60) = W1 at *
  have m4 := b0.cell 4
  have l0 := b0.lt
  go_wp2_with fail
  clear m4 l0
  go_loopw [5] (fun i wr => ∃ k : Nat, k ≤ zpools.length ∧ i = .int .i64 k ∧ Hid (∀ j, j < k → badP np zpools j = false) ∧ G W1 wr) (fun i _ => zpools.length - (intOf i).toNat)
  case atStart => exact ⟨0, Nat.zero_le _, rfl, fun j hj => by omega, G.rf _⟩
  case round =>
    obtain ⟨k, hk, rfl, HN, hG⟩ := hrel
    obtain ⟨wo, rfl⟩ : ∃ wo, wo = wr := ⟨_, rfl⟩
    have bo := b0.keep hG
    have m4 := bo.cell 4
    have l0 := bo.lt
    by_cases hlt : k < zpools.length
    · have hki : (k : Int) < zpools.length := by omega
      rcases h0 with rfl | ⟨g, off, rfl, hg, hcell⟩
      · simp at hlt
      obtain ⟨q, hq⟩ : ∃ q, q = k - 1 := ⟨_, rfl⟩
      have hck := hcell k hlt
      have hcq := hcell q (by omega)
      have hbp : badP np zpools k = (!isInB (zpools.getD k 0) 0 ((np : Int) - 1) || (decide (0 < k) && decide (zpools.getD k 0 ≤ zpools.getD q 0))) := by rw [hq]; rfl
      obtain ⟨x, hx⟩ : ∃ x, x = zpools.getD k 0 := ⟨_, rfl⟩
      obtain ⟨y, hy⟩ : ∃ y, y = zpools.getD q 0 := ⟨_, rfl⟩
      rw [← hx] at hck hbp
      rw [← hy] at hcq hbp
      have hSk : ∀ W', G wo W' → Blk W' w.heap.size 60 #[.int .i64 zbird, .int .i64 zowner, .int .i64 zrank, .int .i64 zday, .slice (some ⟨g, off, none⟩) zpools.length zpc] ∧ W'.cell? ⟨g, off + k, none⟩ = some (.int .i64 x) ∧ W'.cell? ⟨g, off + q, none⟩ = some (.int .i64 y) := fun W' hW => ⟨bo.keep hW, ((bcellB (hG.t hW)).1 g _ hg).trans hck, ((bcellB (hG.t hW)).1 g _ hg).trans hcq⟩
      have HIN := Lib.hid (fun W => within_any x 0 ((np : Int) - 1) W)
      have HBP := Lib.hid hbp
      clear hcell hck hcq hx hy hbp
      cases hin : isInB x 0 ((np : Int) - 1)
      · have HB2 : Hid (badP np zpools k = true) := by show _ = _; rw [HBP.out, hin]; rfl
        rw [hin] at HIN
        clear hin HBP
        go_upto_region 4 with fail
        refine wp_region_Y (S := fun W' => Blk W' w.heap.size 60 #[.int .i64 zbird, .int .i64 zowner, .int .i64 zrank, .int .i64 zday, .slice (some ⟨g, off, none⟩) zpools.length zpc] ∧ W'.cell? ⟨g, off + k, none⟩ = some (.int .i64 x) ∧ W'.cell? ⟨g, off + q, none⟩ = some (.int .i64 y)) 26 27 rfl (by kernel_rfl) (hSk _ (G.rf _).d) (fun hS => ?_)
        have ga := (G.rf wo).d
        change wpAnyY _ _ opsA4 _ _ 26 27 #[false, false, false, false, false, false, false, false, false, false, false, false, false, false, false, false, false, false, false, false, false, false, false, false, false, false, false] _ _
        refine wpAnyY_takeC (v := ?_) [9, 7, 4, 3, 1] rA4_0 rA4o_0 (fun _ _ _ h => h) (Or.inl ⟨by kernel_rfl, ?_⟩) hS ?_
        rotate_left
        · intro w' hSw; have l0 := hSw.1.lt; go_simp; with_reducible rfl
        try simp only [Act.put, List.getElem_toArray, List.getElem_cons_zero, List.getElem_cons_succ, List.setIfInBounds_toArray, List.set_cons_zero, List.set_cons_succ]
        refine wpAnyY_takeC (v := ?_) [9, 7, 4, 3] rA4_1 rA4o_1 (fun _ _ _ h => h) (Or.inl ⟨by kernel_rfl, ?_⟩) hS ?_
        rotate_left
        · intro w' hSw; have m4 := hSw.1.cell 4; have l0 := hSw.1.lt; go_simp; with_reducible rfl
        try simp only [Act.put, List.getElem_toArray, List.getElem_cons_zero, List.getElem_cons_succ, List.setIfInBounds_toArray, List.set_cons_zero, List.set_cons_succ]
        refine wpAnyY_takeC (v := ?_) [9, 7, 4, 3] rA4_2 rA4o_2 (fun _ _ _ h => h) (Or.inl ⟨by kernel_rfl, ?_⟩) hS ?_
        rotate_left
        · intro w' hSw; go_simp; with_reducible rfl
        try simp only [Act.put, List.getElem_toArray, List.getElem_cons_zero, List.getElem_cons_succ, List.setIfInBounds_toArray, List.set_cons_zero, List.set_cons_succ]
        refine wpAnyY_takeC (v := ?_) [9, 7, 4] rA4_3 rA4o_3 (fun _ _ _ h => h) (Or.inl ⟨by kernel_rfl, ?_⟩) hS ?_
        rotate_left
        · intro w' hSw; go_simp; with_reducible rfl
        try simp only [Act.put, List.getElem_toArray, List.getElem_cons_zero, List.getElem_cons_succ, List.setIfInBounds_toArray, List.set_cons_zero, List.set_cons_succ]
        refine wpAnyY_takeC (v := ?_) [9, 7] rA4_4 rA4o_4 (fun _ _ _ h => h) (Or.inl ⟨by kernel_rfl, ?_⟩) hS ?_
        rotate_left
        · intro w' hSw; have q1 := hSw.2.1; go_simp; with_reducible rfl
        try simp only [Act.put, List.getElem_toArray, List.getElem_cons_zero, List.getElem_cons_succ, List.setIfInBounds_toArray, List.set_cons_zero, List.set_cons_succ]
        refine wpAnyY_takeC (v := ?_) [9, 7, 6] rA4_5 rA4o_5 (fun _ _ _ h => h) (Or.inl ⟨by kernel_rfl, ?_⟩) hS ?_
        rotate_left
        · intro w' hSw; go_simp; with_reducible rfl
        try simp only [Act.put, List.getElem_toArray, List.getElem_cons_zero, List.getElem_cons_succ, List.setIfInBounds_toArray, List.set_cons_zero, List.set_cons_succ]
        refine wpAnyY_takeC (v := ?_) [9, 7] rA4_6 rA4o_6 (fun _ _ _ h => h) (Or.inl ⟨by kernel_rfl, ?_⟩) hS ?_
        rotate_left
        · intro w' hSw; go_simp; with_reducible rfl
        try simp only [Act.put, List.getElem_toArray, List.getElem_cons_zero, List.getElem_cons_succ, List.setIfInBounds_toArray, List.set_cons_zero, List.set_cons_succ]
        refine wpAnyY_oneSWC rA4_7 rA4o_7 (by kernel_rfl) (fun K7 hK7 => ?_)
        go_simp
        refine (HIN.out _).mono ?_
        rintro e w5 ⟨rfl, hG5⟩
        replace ga := ga.t hG5
        refine hK7.out _ _ (hSk _ ga) (fun hS => ?_)
        clear hK7
        try simp only [Act.put, List.getElem_toArray, List.getElem_cons_zero, List.getElem_cons_succ, List.setIfInBounds_toArray, List.set_cons_zero, List.set_cons_succ]
        refine wpAnyY_takeC (v := ?_) [9] rA4_8 rA4o_8 (fun _ _ _ h => h) (Or.inl ⟨by kernel_rfl, ?_⟩) hS ?_
        rotate_left
        · intro w' hSw; go_simp; with_reducible rfl
        try simp only [Act.put, List.getElem_toArray, List.getElem_cons_zero, List.getElem_cons_succ, List.setIfInBounds_toArray, List.set_cons_zero, List.set_cons_succ]
        refine wpAnyY_takeC (v := ?_) [] rA4_9 rA4o_9 (fun _ _ _ h => h) (Or.inl ⟨by kernel_rfl, ?_⟩) hS ?_
        rotate_left
        · intro w' hSw; go_simp; with_reducible rfl
        try simp only [Act.put, List.getElem_toArray, List.getElem_cons_zero, List.getElem_cons_succ, List.setIfInBounds_toArray, List.set_cons_zero, List.set_cons_succ]
        refine wpAnyY_takeC (v := undef) [25, 12, 11] rA4_10 rA4o_10 (fun _ _ _ h => h) (Or.inr ⟨by kernel_rfl, rfl⟩) hS ?_
        try simp only [Act.put, List.getElem_toArray, List.getElem_cons_zero, List.getElem_cons_succ, List.setIfInBounds_toArray, List.set_cons_zero, List.set_cons_succ]
        refine wpAnyY_takeC (v := undef) [25, 12] rA4_11 rA4o_11 (fun _ _ _ h => h) (Or.inr ⟨by kernel_rfl, rfl⟩) hS ?_
        try simp only [Act.put, List.getElem_toArray, List.getElem_cons_zero, List.getElem_cons_succ, List.setIfInBounds_toArray, List.set_cons_zero, List.set_cons_succ]
        refine wpAnyY_takeC (v := undef) [25] rA4_12 rA4o_12 (fun _ _ _ h => h) (Or.inr ⟨by kernel_rfl, rfl⟩) hS ?_
        try simp only [Act.put, List.getElem_toArray, List.getElem_cons_zero, List.getElem_cons_succ, List.setIfInBounds_toArray, List.set_cons_zero, List.set_cons_succ]
        refine wpAnyY_takeC (v := undef) [25, 24, 17, 16, 14] rA4_13 rA4o_13 (fun _ _ _ h => h) (Or.inr ⟨by kernel_rfl, rfl⟩) hS ?_
        try simp only [Act.put, List.getElem_toArray, List.getElem_cons_zero, List.getElem_cons_succ, List.setIfInBounds_toArray, List.set_cons_zero, List.set_cons_succ]
        refine wpAnyY_takeC (v := undef) [25, 24, 17, 16] rA4_14 rA4o_14 (fun _ _ _ h => h) (Or.inr ⟨by kernel_rfl, rfl⟩) hS ?_
        try simp only [Act.put, List.getElem_toArray, List.getElem_cons_zero, List.getElem_cons_succ, List.setIfInBounds_toArray, List.set_cons_zero, List.set_cons_succ]
        refine wpAnyY_takeC (v := undef) [25, 24, 17, 16] rA4_15 rA4o_15 (fun _ _ _ h => h) (Or.inr ⟨by kernel_rfl, rfl⟩) hS ?_
        try simp only [Act.put, List.getElem_toArray, List.getElem_cons_zero, List.getElem_cons_succ, List.setIfInBounds_toArray, List.set_cons_zero, List.set_cons_succ]
        refine wpAnyY_takeC (v := undef) [25, 24, 17] rA4_16 rA4o_16 (fun _ _ _ h => h) (Or.inr ⟨by kernel_rfl, rfl⟩) hS ?_
        try simp only [Act.put, List.getElem_toArray, List.getElem_cons_zero, List.getElem_cons_succ, List.setIfInBounds_toArray, List.set_cons_zero, List.set_cons_succ]
        refine wpAnyY_takeC (v := undef) [25, 24] rA4_17 rA4o_17 (fun _ _ _ h => h) (Or.inr ⟨by kernel_rfl, rfl⟩) hS ?_
        try simp only [Act.put, List.getElem_toArray, List.getElem_cons_zero, List.getElem_cons_succ, List.setIfInBounds_toArray, List.set_cons_zero, List.set_cons_succ]
        refine wpAnyY_takeC (v := undef) [25, 24, 23, 22, 19] rA4_18 rA4o_18 (fun _ _ _ h => h) (Or.inr ⟨by kernel_rfl, rfl⟩) hS ?_
        try simp only [Act.put, List.getElem_toArray, List.getElem_cons_zero, List.getElem_cons_succ, List.setIfInBounds_toArray, List.set_cons_zero, List.set_cons_succ]
        refine wpAnyY_takeC (v := undef) [25, 24, 23, 22] rA4_19 rA4o_19 (fun _ _ _ h => h) (Or.inr ⟨by kernel_rfl, rfl⟩) hS ?_
        try simp only [Act.put, List.getElem_toArray, List.getElem_cons_zero, List.getElem_cons_succ, List.setIfInBounds_toArray, List.set_cons_zero, List.set_cons_succ]
        refine wpAnyY_takeC (v := undef) [25, 24, 23, 22, 21] rA4_20 rA4o_20 (fun _ _ _ h => h) (Or.inr ⟨by kernel_rfl, rfl⟩) hS ?_
        try simp only [Act.put, List.getElem_toArray, List.getElem_cons_zero, List.getElem_cons_succ, List.setIfInBounds_toArray, List.set_cons_zero, List.set_cons_succ]
        refine wpAnyY_takeC (v := undef) [25, 24, 23, 22] rA4_21 rA4o_21 (fun _ _ _ h => h) (Or.inr ⟨by kernel_rfl, rfl⟩) hS ?_
        try simp only [Act.put, List.getElem_toArray, List.getElem_cons_zero, List.getElem_cons_succ, List.setIfInBounds_toArray, List.set_cons_zero, List.set_cons_succ]
        refine wpAnyY_takeC (v := undef) [25, 24, 23] rA4_22 rA4o_22 (fun _ _ _ h => h) (Or.inr ⟨by kernel_rfl, rfl⟩) hS ?_
        try simp only [Act.put, List.getElem_toArray, List.getElem_cons_zero, List.getElem_cons_succ, List.setIfInBounds_toArray, List.set_cons_zero, List.set_cons_succ]
        refine wpAnyY_takeC (v := undef) [25, 24] rA4_23 rA4o_23 (fun _ _ _ h => h) (Or.inr ⟨by kernel_rfl, rfl⟩) hS ?_
        try simp only [Act.put, List.getElem_toArray, List.getElem_cons_zero, List.getElem_cons_succ, List.setIfInBounds_toArray, List.set_cons_zero, List.set_cons_succ]
        refine wpAnyY_takeC (v := undef) [25] rA4_24 rA4o_24 (fun _ _ _ h => h) (Or.inr ⟨by kernel_rfl, rfl⟩) hS ?_
        try simp only [Act.put, List.getElem_toArray, List.getElem_cons_zero, List.getElem_cons_succ, List.setIfInBounds_toArray, List.set_cons_zero, List.set_cons_succ]
        refine wpAnyY_takeC (v := undef) [] rA4_25 rA4o_25 (fun _ _ _ h => h) (Or.inr ⟨by kernel_rfl, rfl⟩) hS ?_
        try simp only [Act.put, List.getElem_toArray, List.getElem_cons_zero, List.getElem_cons_succ, List.setIfInBounds_toArray, List.set_cons_zero, List.set_cons_succ]
        refine wpAnyY_oneW (i := 26) (by kernel_rfl) rA4o_26 (by kernel_rfl) (by kernel_rfl) (fun K26 hK26 => ?_)
        go_simp
        refine hK26.out _ _ ?_
        clear hK26
        try simp only [Act.put, List.getElem_toArray, List.getElem_cons_zero, List.getElem_cons_succ, List.setIfInBounds_toArray, List.set_cons_zero, List.set_cons_succ]
        refine wpAnyY_done (by kernel_rfl) ?_ _
        clear hS hSk
        have hGz := hG.t ga
        have HZ := Lib.hid (HBAD.out k hlt HB2.out)
        go_wp2_with fail
        first | exact HF.out _ HZ.out (g0.t hGz) | (go_ret; exact HF.out _ HZ.out (g0.t hGz))
      · rw [hin] at HIN
        by_cases hk0 : k = 0
        · have hkn : ¬ (0 : Int) < (k : Int) := by omega
          have HOKK : Hid (badP np zpools k = false) := by show _ = _; rw [HBP.out, hin, show decide (0 < k) = false by simpa using hk0]; rfl
          have hd1 : decide ((0 : Int) < (k : Int)) = false := decide_eq_false hkn
          have hd2 : decide (0 < k) = false := by simpa using hk0
          clear hin HBP hk0
          go_upto_region 4 with fail
          refine wp_region_Y (S := fun W' => Blk W' w.heap.size 60 #[.int .i64 zbird, .int .i64 zowner, .int .i64 zrank, .int .i64 zday, .slice (some ⟨g, off, none⟩) zpools.length zpc] ∧ W'.cell? ⟨g, off + k, none⟩ = some (.int .i64 x) ∧ W'.cell? ⟨g, off + q, none⟩ = some (.int .i64 y)) 26 27 rfl (by kernel_rfl) (hSk _ (G.rf _).d) (fun hS => ?_)
          have ga := (G.rf wo).d
          change wpAnyY _ _ opsA4 _ _ 26 27 #[false, false, false, false, false, false, false, false, false, false, false, false, false, false, false, false, false, false, false, false, false, false, false, false, false, false, false] _ _
          refine wpAnyY_takeC (v := ?_) [9, 7, 4, 3, 1] rA4_0 rA4o_0 (fun _ _ _ h => h) (Or.inl ⟨by kernel_rfl, ?_⟩) hS ?_
          rotate_left
          · intro w' hSw; have l0 := hSw.1.lt; go_simp; with_reducible rfl
          try simp only [Act.put, List.getElem_toArray, List.getElem_cons_zero, List.getElem_cons_succ, List.setIfInBounds_toArray, List.set_cons_zero, List.set_cons_succ]
          refine wpAnyY_takeC (v := ?_) [9, 7, 4, 3] rA4_1 rA4o_1 (fun _ _ _ h => h) (Or.inl ⟨by kernel_rfl, ?_⟩) hS ?_
          rotate_left
          · intro w' hSw; have m4 := hSw.1.cell 4; have l0 := hSw.1.lt; go_simp; with_reducible rfl
          try simp only [Act.put, List.getElem_toArray, List.getElem_cons_zero, List.getElem_cons_succ, List.setIfInBounds_toArray, List.set_cons_zero, List.set_cons_succ]
          refine wpAnyY_takeC (v := ?_) [9, 7, 4, 3] rA4_2 rA4o_2 (fun _ _ _ h => h) (Or.inl ⟨by kernel_rfl, ?_⟩) hS ?_
          rotate_left
          · intro w' hSw; go_simp; with_reducible rfl
          try simp only [Act.put, List.getElem_toArray, List.getElem_cons_zero, List.getElem_cons_succ, List.setIfInBounds_toArray, List.set_cons_zero, List.set_cons_succ]
          refine wpAnyY_takeC (v := ?_) [9, 7, 4] rA4_3 rA4o_3 (fun _ _ _ h => h) (Or.inl ⟨by kernel_rfl, ?_⟩) hS ?_
          rotate_left
          · intro w' hSw; go_simp; with_reducible rfl
          try simp only [Act.put, List.getElem_toArray, List.getElem_cons_zero, List.getElem_cons_succ, List.setIfInBounds_toArray, List.set_cons_zero, List.set_cons_succ]
          refine wpAnyY_takeC (v := ?_) [9, 7] rA4_4 rA4o_4 (fun _ _ _ h => h) (Or.inl ⟨by kernel_rfl, ?_⟩) hS ?_
          rotate_left
          · intro w' hSw; have q1 := hSw.2.1; go_simp; with_reducible rfl
          try simp only [Act.put, List.getElem_toArray, List.getElem_cons_zero, List.getElem_cons_succ, List.setIfInBounds_toArray, List.set_cons_zero, List.set_cons_succ]
          refine wpAnyY_takeC (v := ?_) [9, 7, 6] rA4_5 rA4o_5 (fun _ _ _ h => h) (Or.inl ⟨by kernel_rfl, ?_⟩) hS ?_
          rotate_left
          · intro w' hSw; go_simp; with_reducible rfl
          try simp only [Act.put, List.getElem_toArray, List.getElem_cons_zero, List.getElem_cons_succ, List.setIfInBounds_toArray, List.set_cons_zero, List.set_cons_succ]
          refine wpAnyY_takeC (v := ?_) [9, 7] rA4_6 rA4o_6 (fun _ _ _ h => h) (Or.inl ⟨by kernel_rfl, ?_⟩) hS ?_
          rotate_left
          · intro w' hSw; go_simp; with_reducible rfl
          try simp only [Act.put, List.getElem_toArray, List.getElem_cons_zero, List.getElem_cons_succ, List.setIfInBounds_toArray, List.set_cons_zero, List.set_cons_succ]
          refine wpAnyY_oneSWC rA4_7 rA4o_7 (by kernel_rfl) (fun K7 hK7 => ?_)
          go_simp
          refine (HIN.out _).mono ?_
          rintro e w5 ⟨rfl, hG5⟩
          replace ga := ga.t hG5
          refine hK7.out _ _ (hSk _ ga) (fun hS => ?_)
          clear hK7
          try simp only [Act.put, List.getElem_toArray, List.getElem_cons_zero, List.getElem_cons_succ, List.setIfInBounds_toArray, List.set_cons_zero, List.set_cons_succ]
          refine wpAnyY_takeC (v := ?_) [9] rA4_8 rA4o_8 (fun _ _ _ h => h) (Or.inl ⟨by kernel_rfl, ?_⟩) hS ?_
          rotate_left
          · intro w' hSw; go_simp; with_reducible rfl
          try simp only [Act.put, List.getElem_toArray, List.getElem_cons_zero, List.getElem_cons_succ, List.setIfInBounds_toArray, List.set_cons_zero, List.set_cons_succ]
          refine wpAnyY_takeC (v := ?_) [] rA4_9 rA4o_9 (fun _ _ _ h => h) (Or.inl ⟨by kernel_rfl, ?_⟩) hS ?_
          rotate_left
          · intro w' hSw; go_simp; with_reducible rfl
          try simp only [Act.put, List.getElem_toArray, List.getElem_cons_zero, List.getElem_cons_succ, List.setIfInBounds_toArray, List.set_cons_zero, List.set_cons_succ]
          refine wpAnyY_takeC (v := ?_) [25, 12, 11] rA4_10 rA4o_10 (fun _ _ _ h => h) (Or.inl ⟨by kernel_rfl, ?_⟩) hS ?_
          rotate_left
          · intro w' hSw; go_simp; with_reducible rfl
          try simp only [Act.put, List.getElem_toArray, List.getElem_cons_zero, List.getElem_cons_succ, List.setIfInBounds_toArray, List.set_cons_zero, List.set_cons_succ]
          refine wpAnyY_takeC (v := ?_) [25, 12] rA4_11 rA4o_11 (fun _ _ _ h => h) (Or.inl ⟨by kernel_rfl, ?_⟩) hS ?_
          rotate_left
          · intro w' hSw; go_simp; with_reducible rfl
          try simp only [Act.put, List.getElem_toArray, List.getElem_cons_zero, List.getElem_cons_succ, List.setIfInBounds_toArray, List.set_cons_zero, List.set_cons_succ]
          refine wpAnyY_takeC (v := ?_) [25] rA4_12 rA4o_12 (fun _ _ _ h => h) (Or.inl ⟨by kernel_rfl, ?_⟩) hS ?_
          rotate_left
          · intro w' hSw; go_simp; with_reducible rfl
          try simp only [Act.put, List.getElem_toArray, List.getElem_cons_zero, List.getElem_cons_succ, List.setIfInBounds_toArray, List.set_cons_zero, List.set_cons_succ]
          refine wpAnyY_takeC (v := undef) [25, 24, 17, 16, 14] rA4_13 rA4o_13 (fun _ _ _ h => h) (Or.inr ⟨by kernel_rfl, rfl⟩) hS ?_
          try simp only [Act.put, List.getElem_toArray, List.getElem_cons_zero, List.getElem_cons_succ, List.setIfInBounds_toArray, List.set_cons_zero, List.set_cons_succ]
          refine wpAnyY_takeC (v := undef) [25, 24, 17, 16] rA4_14 rA4o_14 (fun _ _ _ h => h) (Or.inr ⟨by kernel_rfl, rfl⟩) hS ?_
          try simp only [Act.put, List.getElem_toArray, List.getElem_cons_zero, List.getElem_cons_succ, List.setIfInBounds_toArray, List.set_cons_zero, List.set_cons_succ]
          refine wpAnyY_takeC (v := undef) [25, 24, 17, 16] rA4_15 rA4o_15 (fun _ _ _ h => h) (Or.inr ⟨by kernel_rfl, rfl⟩) hS ?_
          try simp only [Act.put, List.getElem_toArray, List.getElem_cons_zero, List.getElem_cons_succ, List.setIfInBounds_toArray, List.set_cons_zero, List.set_cons_succ]
          refine wpAnyY_takeC (v := undef) [25, 24, 17] rA4_16 rA4o_16 (fun _ _ _ h => h) (Or.inr ⟨by kernel_rfl, rfl⟩) hS ?_
          try simp only [Act.put, List.getElem_toArray, List.getElem_cons_zero, List.getElem_cons_succ, List.setIfInBounds_toArray, List.set_cons_zero, List.set_cons_succ]
          refine wpAnyY_takeC (v := undef) [25, 24] rA4_17 rA4o_17 (fun _ _ _ h => h) (Or.inr ⟨by kernel_rfl, rfl⟩) hS ?_
          try simp only [Act.put, List.getElem_toArray, List.getElem_cons_zero, List.getElem_cons_succ, List.setIfInBounds_toArray, List.set_cons_zero, List.set_cons_succ]
          refine wpAnyY_takeC (v := undef) [25, 24, 23, 22, 19] rA4_18 rA4o_18 (fun _ _ _ h => h) (Or.inr ⟨by kernel_rfl, rfl⟩) hS ?_
          try simp only [Act.put, List.getElem_toArray, List.getElem_cons_zero, List.getElem_cons_succ, List.setIfInBounds_toArray, List.set_cons_zero, List.set_cons_succ]
          refine wpAnyY_takeC (v := undef) [25, 24, 23, 22] rA4_19 rA4o_19 (fun _ _ _ h => h) (Or.inr ⟨by kernel_rfl, rfl⟩) hS ?_
          try simp only [Act.put, List.getElem_toArray, List.getElem_cons_zero, List.getElem_cons_succ, List.setIfInBounds_toArray, List.set_cons_zero, List.set_cons_succ]
          refine wpAnyY_takeC (v := undef) [25, 24, 23, 22, 21] rA4_20 rA4o_20 (fun _ _ _ h => h) (Or.inr ⟨by kernel_rfl, rfl⟩) hS ?_
          try simp only [Act.put, List.getElem_toArray, List.getElem_cons_zero, List.getElem_cons_succ, List.setIfInBounds_toArray, List.set_cons_zero, List.set_cons_succ]
          refine wpAnyY_takeC (v := undef) [25, 24, 23, 22] rA4_21 rA4o_21 (fun _ _ _ h => h) (Or.inr ⟨by kernel_rfl, rfl⟩) hS ?_
          try simp only [Act.put, List.getElem_toArray, List.getElem_cons_zero, List.getElem_cons_succ, List.setIfInBounds_toArray, List.set_cons_zero, List.set_cons_succ]
          refine wpAnyY_takeC (v := undef) [25, 24, 23] rA4_22 rA4o_22 (fun _ _ _ h => h) (Or.inr ⟨by kernel_rfl, rfl⟩) hS ?_
          try simp only [Act.put, List.getElem_toArray, List.getElem_cons_zero, List.getElem_cons_succ, List.setIfInBounds_toArray, List.set_cons_zero, List.set_cons_succ]
          refine wpAnyY_takeC (v := undef) [25, 24] rA4_23 rA4o_23 (fun _ _ _ h => h) (Or.inr ⟨by kernel_rfl, rfl⟩) hS ?_
          try simp only [Act.put, List.getElem_toArray, List.getElem_cons_zero, List.getElem_cons_succ, List.setIfInBounds_toArray, List.set_cons_zero, List.set_cons_succ]
          refine wpAnyY_takeC (v := undef) [25] rA4_24 rA4o_24 (fun _ _ _ h => h) (Or.inr ⟨by kernel_rfl, rfl⟩) hS ?_
          try simp only [Act.put, List.getElem_toArray, List.getElem_cons_zero, List.getElem_cons_succ, List.setIfInBounds_toArray, List.set_cons_zero, List.set_cons_succ]
          refine wpAnyY_takeC (v := ?_) [] rA4_25 rA4o_25 (fun _ _ _ h => h) (Or.inl ⟨by kernel_rfl, ?_⟩) hS ?_
          rotate_left
          · intro w' hSw; go_simp; with_reducible rfl
          try simp only [Act.put, List.getElem_toArray, List.getElem_cons_zero, List.getElem_cons_succ, List.setIfInBounds_toArray, List.set_cons_zero, List.set_cons_succ]
          refine wpAnyY_oneW (i := 26) (by kernel_rfl) rA4o_26 (by kernel_rfl) (by kernel_rfl) (fun K26 hK26 => ?_)
          go_simp
          refine hK26.out _ _ ?_
          clear hK26
          try simp only [Act.put, List.getElem_toArray, List.getElem_cons_zero, List.getElem_cons_succ, List.setIfInBounds_toArray, List.set_cons_zero, List.set_cons_succ]
          refine wpAnyY_done (by kernel_rfl) ?_ _
          clear hS hSk
          have hGz := hG.t ga
          go_wp2_with fail
          go_roundw
          case rel => exact ⟨k + 1, by omega, by go_num, fun j hj => by
            rcases Nat.lt_or_ge j k with h4 | h4
            · exact HN.out j h4
            · obtain rfl : j = k := by omega
              exact HOKK.out, hGz⟩
          case measure => simp [intOf] <;> omega
        · have hkn : (0 : Int) < (k : Int) := by omega
          have hd1 : decide ((0 : Int) < (k : Int)) = true := decide_eq_true hkn
          have hk0n : 0 < k := by omega
          have hd2 : decide (0 < k) = true := decide_eq_true hk0n
          have x1 : IntKind.i64.wrap ((k : Int) - 1) = (q : Nat) := by rw [IntWalk.i64_in _ (by omega)]; omega
          have hqi : (q : Int) < zpools.length := by omega
          have hqn : q < zpools.length := by omega
          clear hq hk0
          by_cases hle : x ≤ y
          · have hdl : decide (x ≤ y) = true := decide_eq_true hle
            have HB2 : Hid (badP np zpools k = true) := by show _ = _; rw [HBP.out, hin, hd2, hdl]; rfl
            clear hin HBP
            go_upto_region 4 with fail
            refine wp_region_Y (S := fun W' => Blk W' w.heap.size 60 #[.int .i64 zbird, .int .i64 zowner, .int .i64 zrank, .int .i64 zday, .slice (some ⟨g, off, none⟩) zpools.length zpc] ∧ W'.cell? ⟨g, off + k, none⟩ = some (.int .i64 x) ∧ W'.cell? ⟨g, off + q, none⟩ = some (.int .i64 y)) 26 27 rfl (by kernel_rfl) (hSk _ (G.rf _).d) (fun hS => ?_)
            have ga := (G.rf wo).d
            change wpAnyY _ _ opsA4 _ _ 26 27 #[false, false, false, false, false, false, false, false, false, false, false, false, false, false, false, false, false, false, false, false, false, false, false, false, false, false, false] _ _
            refine wpAnyY_takeC (v := ?_) [9, 7, 4, 3, 1] rA4_0 rA4o_0 (fun _ _ _ h => h) (Or.inl ⟨by kernel_rfl, ?_⟩) hS ?_
            rotate_left
            · intro w' hSw; have l0 := hSw.1.lt; go_simp; with_reducible rfl
            try simp only [Act.put, List.getElem_toArray, List.getElem_cons_zero, List.getElem_cons_succ, List.setIfInBounds_toArray, List.set_cons_zero, List.set_cons_succ]
            refine wpAnyY_takeC (v := ?_) [9, 7, 4, 3] rA4_1 rA4o_1 (fun _ _ _ h => h) (Or.inl ⟨by kernel_rfl, ?_⟩) hS ?_
            rotate_left
            · intro w' hSw; have m4 := hSw.1.cell 4; have l0 := hSw.1.lt; go_simp; with_reducible rfl
            try simp only [Act.put, List.getElem_toArray, List.getElem_cons_zero, List.getElem_cons_succ, List.setIfInBounds_toArray, List.set_cons_zero, List.set_cons_succ]
            refine wpAnyY_takeC (v := ?_) [9, 7, 4, 3] rA4_2 rA4o_2 (fun _ _ _ h => h) (Or.inl ⟨by kernel_rfl, ?_⟩) hS ?_
            rotate_left
            · intro w' hSw; go_simp; with_reducible rfl
            try simp only [Act.put, List.getElem_toArray, List.getElem_cons_zero, List.getElem_cons_succ, List.setIfInBounds_toArray, List.set_cons_zero, List.set_cons_succ]
            refine wpAnyY_takeC (v := ?_) [9, 7, 4] rA4_3 rA4o_3 (fun _ _ _ h => h) (Or.inl ⟨by kernel_rfl, ?_⟩) hS ?_
            rotate_left
            · intro w' hSw; go_simp; with_reducible rfl
            try simp only [Act.put, List.getElem_toArray, List.getElem_cons_zero, List.getElem_cons_succ, List.setIfInBounds_toArray, List.set_cons_zero, List.set_cons_succ]
            refine wpAnyY_takeC (v := ?_) [9, 7] rA4_4 rA4o_4 (fun _ _ _ h => h) (Or.inl ⟨by kernel_rfl, ?_⟩) hS ?_
            rotate_left
            · intro w' hSw; have q1 := hSw.2.1; go_simp; with_reducible rfl
            try simp only [Act.put, List.getElem_toArray, List.getElem_cons_zero, List.getElem_cons_succ, List.setIfInBounds_toArray, List.set_cons_zero, List.set_cons_succ]
            refine wpAnyY_takeC (v := ?_) [9, 7, 6] rA4_5 rA4o_5 (fun _ _ _ h => h) (Or.inl ⟨by kernel_rfl, ?_⟩) hS ?_
            rotate_left
            · intro w' hSw; go_simp; with_reducible rfl
            try simp only [Act.put, List.getElem_toArray, List.getElem_cons_zero, List.getElem_cons_succ, List.setIfInBounds_toArray, List.set_cons_zero, List.set_cons_succ]
            refine wpAnyY_takeC (v := ?_) [9, 7] rA4_6 rA4o_6 (fun _ _ _ h => h) (Or.inl ⟨by kernel_rfl, ?_⟩) hS ?_
            rotate_left
            · intro w' hSw; go_simp; with_reducible rfl
            try simp only [Act.put, List.getElem_toArray, List.getElem_cons_zero, List.getElem_cons_succ, List.setIfInBounds_toArray, List.set_cons_zero, List.set_cons_succ]
            refine wpAnyY_oneSWC rA4_7 rA4o_7 (by kernel_rfl) (fun K7 hK7 => ?_)
            go_simp
            refine (HIN.out _).mono ?_
            rintro e w5 ⟨rfl, hG5⟩
            replace ga := ga.t hG5
            refine hK7.out _ _ (hSk _ ga) (fun hS => ?_)
            clear hK7
            try simp only [Act.put, List.getElem_toArray, List.getElem_cons_zero, List.getElem_cons_succ, List.setIfInBounds_toArray, List.set_cons_zero, List.set_cons_succ]
            refine wpAnyY_takeC (v := ?_) [9] rA4_8 rA4o_8 (fun _ _ _ h => h) (Or.inl ⟨by kernel_rfl, ?_⟩) hS ?_
            rotate_left
            · intro w' hSw; go_simp; with_reducible rfl
            try simp only [Act.put, List.getElem_toArray, List.getElem_cons_zero, List.getElem_cons_succ, List.setIfInBounds_toArray, List.set_cons_zero, List.set_cons_succ]
            refine wpAnyY_takeC (v := ?_) [] rA4_9 rA4o_9 (fun _ _ _ h => h) (Or.inl ⟨by kernel_rfl, ?_⟩) hS ?_
            rotate_left
            · intro w' hSw; go_simp; with_reducible rfl
            try simp only [Act.put, List.getElem_toArray, List.getElem_cons_zero, List.getElem_cons_succ, List.setIfInBounds_toArray, List.set_cons_zero, List.set_cons_succ]
            refine wpAnyY_takeC (v := ?_) [25, 12, 11] rA4_10 rA4o_10 (fun _ _ _ h => h) (Or.inl ⟨by kernel_rfl, ?_⟩) hS ?_
            rotate_left
            · intro w' hSw; go_simp; with_reducible rfl
            try simp only [Act.put, List.getElem_toArray, List.getElem_cons_zero, List.getElem_cons_succ, List.setIfInBounds_toArray, List.set_cons_zero, List.set_cons_succ]
            refine wpAnyY_takeC (v := ?_) [25, 12] rA4_11 rA4o_11 (fun _ _ _ h => h) (Or.inl ⟨by kernel_rfl, ?_⟩) hS ?_
            rotate_left
            · intro w' hSw; go_simp; with_reducible rfl
            try simp only [Act.put, List.getElem_toArray, List.getElem_cons_zero, List.getElem_cons_succ, List.setIfInBounds_toArray, List.set_cons_zero, List.set_cons_succ]
            refine wpAnyY_takeC (v := ?_) [25] rA4_12 rA4o_12 (fun _ _ _ h => h) (Or.inl ⟨by kernel_rfl, ?_⟩) hS ?_
            rotate_left
            · intro w' hSw; go_simp; with_reducible rfl
            try simp only [Act.put, List.getElem_toArray, List.getElem_cons_zero, List.getElem_cons_succ, List.setIfInBounds_toArray, List.set_cons_zero, List.set_cons_succ]
            refine wpAnyY_takeC (v := ?_) [25, 24, 17, 16, 14] rA4_13 rA4o_13 (fun _ _ _ h => h) (Or.inl ⟨by kernel_rfl, ?_⟩) hS ?_
            rotate_left
            · intro w' hSw; have l0 := hSw.1.lt; go_simp; with_reducible rfl
            try simp only [Act.put, List.getElem_toArray, List.getElem_cons_zero, List.getElem_cons_succ, List.setIfInBounds_toArray, List.set_cons_zero, List.set_cons_succ]
            refine wpAnyY_takeC (v := ?_) [25, 24, 17, 16] rA4_14 rA4o_14 (fun _ _ _ h => h) (Or.inl ⟨by kernel_rfl, ?_⟩) hS ?_
            rotate_left
            · intro w' hSw; have m4 := hSw.1.cell 4; have l0 := hSw.1.lt; go_simp; with_reducible rfl
            try simp only [Act.put, List.getElem_toArray, List.getElem_cons_zero, List.getElem_cons_succ, List.setIfInBounds_toArray, List.set_cons_zero, List.set_cons_succ]
            refine wpAnyY_takeC (v := ?_) [25, 24, 17, 16] rA4_15 rA4o_15 (fun _ _ _ h => h) (Or.inl ⟨by kernel_rfl, ?_⟩) hS ?_
            rotate_left
            · intro w' hSw; go_simp; with_reducible rfl
            try simp only [Act.put, List.getElem_toArray, List.getElem_cons_zero, List.getElem_cons_succ, List.setIfInBounds_toArray, List.set_cons_zero, List.set_cons_succ]
            refine wpAnyY_takeC (v := ?_) [25, 24, 17] rA4_16 rA4o_16 (fun _ _ _ h => h) (Or.inl ⟨by kernel_rfl, ?_⟩) hS ?_
            rotate_left
            · intro w' hSw; go_simp; with_reducible rfl
            try simp only [Act.put, List.getElem_toArray, List.getElem_cons_zero, List.getElem_cons_succ, List.setIfInBounds_toArray, List.set_cons_zero, List.set_cons_succ]
            refine wpAnyY_takeC (v := ?_) [25, 24] rA4_17 rA4o_17 (fun _ _ _ h => h) (Or.inl ⟨by kernel_rfl, ?_⟩) hS ?_
            rotate_left
            · intro w' hSw; have q1 := hSw.2.1; go_simp; with_reducible rfl
            try simp only [Act.put, List.getElem_toArray, List.getElem_cons_zero, List.getElem_cons_succ, List.setIfInBounds_toArray, List.set_cons_zero, List.set_cons_succ]
            refine wpAnyY_takeC (v := ?_) [25, 24, 23, 22, 19] rA4_18 rA4o_18 (fun _ _ _ h => h) (Or.inl ⟨by kernel_rfl, ?_⟩) hS ?_
            rotate_left
            · intro w' hSw; have l0 := hSw.1.lt; go_simp; with_reducible rfl
            try simp only [Act.put, List.getElem_toArray, List.getElem_cons_zero, List.getElem_cons_succ, List.setIfInBounds_toArray, List.set_cons_zero, List.set_cons_succ]
            refine wpAnyY_takeC (v := ?_) [25, 24, 23, 22] rA4_19 rA4o_19 (fun _ _ _ h => h) (Or.inl ⟨by kernel_rfl, ?_⟩) hS ?_
            rotate_left
            · intro w' hSw; have m4 := hSw.1.cell 4; have l0 := hSw.1.lt; go_simp; with_reducible rfl
            try simp only [Act.put, List.getElem_toArray, List.getElem_cons_zero, List.getElem_cons_succ, List.setIfInBounds_toArray, List.set_cons_zero, List.set_cons_succ]
            refine wpAnyY_takeC (v := ?_) [25, 24, 23, 22, 21] rA4_20 rA4o_20 (fun _ _ _ h => h) (Or.inl ⟨by kernel_rfl, ?_⟩) hS ?_
            rotate_left
            · intro w' hSw; go_simp; with_reducible rfl
            try simp only [Act.put, List.getElem_toArray, List.getElem_cons_zero, List.getElem_cons_succ, List.setIfInBounds_toArray, List.set_cons_zero, List.set_cons_succ]
            refine wpAnyY_takeC (v := ?_) [25, 24, 23, 22] rA4_21 rA4o_21 (fun _ _ _ h => h) (Or.inl ⟨by kernel_rfl, ?_⟩) hS ?_
            rotate_left
            · intro w' hSw; go_simp; with_reducible rfl
            try simp only [Act.put, List.getElem_toArray, List.getElem_cons_zero, List.getElem_cons_succ, List.setIfInBounds_toArray, List.set_cons_zero, List.set_cons_succ]
            refine wpAnyY_takeC (v := ?_) [25, 24, 23] rA4_22 rA4o_22 (fun _ _ _ h => h) (Or.inl ⟨by kernel_rfl, ?_⟩) hS ?_
            rotate_left
            · intro w' hSw; go_simp; with_reducible rfl
            try simp only [Act.put, List.getElem_toArray, List.getElem_cons_zero, List.getElem_cons_succ, List.setIfInBounds_toArray, List.set_cons_zero, List.set_cons_succ]
            refine wpAnyY_takeC (v := ?_) [25, 24] rA4_23 rA4o_23 (fun _ _ _ h => h) (Or.inl ⟨by kernel_rfl, ?_⟩) hS ?_
            rotate_left
            · intro w' hSw; have q2 := hSw.2.2; go_simp; with_reducible rfl
            try simp only [Act.put, List.getElem_toArray, List.getElem_cons_zero, List.getElem_cons_succ, List.setIfInBounds_toArray, List.set_cons_zero, List.set_cons_succ]
            refine wpAnyY_takeC (v := ?_) [25] rA4_24 rA4o_24 (fun _ _ _ h => h) (Or.inl ⟨by kernel_rfl, ?_⟩) hS ?_
            rotate_left
            · intro w' hSw; go_simp; with_reducible rfl
            try simp only [Act.put, List.getElem_toArray, List.getElem_cons_zero, List.getElem_cons_succ, List.setIfInBounds_toArray, List.set_cons_zero, List.set_cons_succ]
            refine wpAnyY_takeC (v := ?_) [] rA4_25 rA4o_25 (fun _ _ _ h => h) (Or.inl ⟨by kernel_rfl, ?_⟩) hS ?_
            rotate_left
            · intro w' hSw; go_simp; with_reducible rfl
            try simp only [Act.put, List.getElem_toArray, List.getElem_cons_zero, List.getElem_cons_succ, List.setIfInBounds_toArray, List.set_cons_zero, List.set_cons_succ]
            refine wpAnyY_oneW (i := 26) (by kernel_rfl) rA4o_26 (by kernel_rfl) (by kernel_rfl) (fun K26 hK26 => ?_)
            go_simp
            refine hK26.out _ _ ?_
            clear hK26
            try simp only [Act.put, List.getElem_toArray, List.getElem_cons_zero, List.getElem_cons_succ, List.setIfInBounds_toArray, List.set_cons_zero, List.set_cons_succ]
            refine wpAnyY_done (by kernel_rfl) ?_ _
            clear hS hSk
            have hGz := hG.t ga
            have HZ := Lib.hid (HBAD.out k hlt HB2.out)
            go_wp2_with fail
            first | exact HF.out _ HZ.out (g0.t hGz) | (go_ret; exact HF.out _ HZ.out (g0.t hGz))
          · have hdl : decide (x ≤ y) = false := decide_eq_false hle
            have HOKK : Hid (badP np zpools k = false) := by show _ = _; rw [HBP.out, hin, hd2, hdl]; rfl
            clear hin HBP
            go_upto_region 4 with fail
            refine wp_region_Y (S := fun W' => Blk W' w.heap.size 60 #[.int .i64 zbird, .int .i64 zowner, .int .i64 zrank, .int .i64 zday, .slice (some ⟨g, off, none⟩) zpools.length zpc] ∧ W'.cell? ⟨g, off + k, none⟩ = some (.int .i64 x) ∧ W'.cell? ⟨g, off + q, none⟩ = some (.int .i64 y)) 26 27 rfl (by kernel_rfl) (hSk _ (G.rf _).d) (fun hS => ?_)
            have ga := (G.rf wo).d
            change wpAnyY _ _ opsA4 _ _ 26 27 #[false, false, false, false, false, false, false, false, false, false, false, false, false, false, false, false, false, false, false, false, false, false, false, false, false, false, false] _ _
            refine wpAnyY_takeC (v := ?_) [9, 7, 4, 3, 1] rA4_0 rA4o_0 (fun _ _ _ h => h) (Or.inl ⟨by kernel_rfl, ?_⟩) hS ?_
            rotate_left
            · intro w' hSw; have l0 := hSw.1.lt; go_simp; with_reducible rfl
            try simp only [Act.put, List.getElem_toArray, List.getElem_cons_zero, List.getElem_cons_succ, List.setIfInBounds_toArray, List.set_cons_zero, List.set_cons_succ]
            refine wpAnyY_takeC (v := ?_) [9, 7, 4, 3] rA4_1 rA4o_1 (fun _ _ _ h => h) (Or.inl ⟨by kernel_rfl, ?_⟩) hS ?_
            rotate_left
            · intro w' hSw; have m4 := hSw.1.cell 4; have l0 := hSw.1.lt; go_simp; with_reducible rfl
            try simp only [Act.put, List.getElem_toArray, List.getElem_cons_zero, List.getElem_cons_succ, List.setIfInBounds_toArray, List.set_cons_zero, List.set_cons_succ]
            refine wpAnyY_takeC (v := ?_) [9, 7, 4, 3] rA4_2 rA4o_2 (fun _ _ _ h => h) (Or.inl ⟨by kernel_rfl, ?_⟩) hS ?_
            rotate_left
            · intro w' hSw; go_simp; with_reducible rfl
            try simp only [Act.put, List.getElem_toArray, List.getElem_cons_zero, List.getElem_cons_succ, List.setIfInBounds_toArray, List.set_cons_zero, List.set_cons_succ]
            refine wpAnyY_takeC (v := ?_) [9, 7, 4] rA4_3 rA4o_3 (fun _ _ _ h => h) (Or.inl ⟨by kernel_rfl, ?_⟩) hS ?_
            rotate_left
            · intro w' hSw; go_simp; with_reducible rfl
            try simp only [Act.put, List.getElem_toArray, List.getElem_cons_zero, List.getElem_cons_succ, List.setIfInBounds_toArray, List.set_cons_zero, List.set_cons_succ]
            refine wpAnyY_takeC (v := ?_) [9, 7] rA4_4 rA4o_4 (fun _ _ _ h => h) (Or.inl ⟨by kernel_rfl, ?_⟩) hS ?_
            rotate_left
            · intro w' hSw; have q1 := hSw.2.1; go_simp; with_reducible rfl
            try simp only [Act.put, List.getElem_toArray, List.getElem_cons_zero, List.getElem_cons_succ, List.setIfInBounds_toArray, List.set_cons_zero, List.set_cons_succ]
            refine wpAnyY_takeC (v := ?_) [9, 7, 6] rA4_5 rA4o_5 (fun _ _ _ h => h) (Or.inl ⟨by kernel_rfl, ?_⟩) hS ?_
            rotate_left
            · intro w' hSw; go_simp; with_reducible rfl
            try simp only [Act.put, List.getElem_toArray, List.getElem_cons_zero, List.getElem_cons_succ, List.setIfInBounds_toArray, List.set_cons_zero, List.set_cons_succ]
            refine wpAnyY_takeC (v := ?_) [9, 7] rA4_6 rA4o_6 (fun _ _ _ h => h) (Or.inl ⟨by kernel_rfl, ?_⟩) hS ?_
            rotate_left
            · intro w' hSw; go_simp; with_reducible rfl
            try simp only [Act.put, List.getElem_toArray, List.getElem_cons_zero, List.getElem_cons_succ, List.setIfInBounds_toArray, List.set_cons_zero, List.set_cons_succ]
            refine wpAnyY_oneSWC rA4_7 rA4o_7 (by kernel_rfl) (fun K7 hK7 => ?_)
            go_simp
            refine (HIN.out _).mono ?_
            rintro e w5 ⟨rfl, hG5⟩
            replace ga := ga.t hG5
            refine hK7.out _ _ (hSk _ ga) (fun hS => ?_)
            clear hK7
            try simp only [Act.put, List.getElem_toArray, List.getElem_cons_zero, List.getElem_cons_succ, List.setIfInBounds_toArray, List.set_cons_zero, List.set_cons_succ]
            refine wpAnyY_takeC (v := ?_) [9] rA4_8 rA4o_8 (fun _ _ _ h => h) (Or.inl ⟨by kernel_rfl, ?_⟩) hS ?_
            rotate_left
            · intro w' hSw; go_simp; with_reducible rfl
            try simp only [Act.put, List.getElem_toArray, List.getElem_cons_zero, List.getElem_cons_succ, List.setIfInBounds_toArray, List.set_cons_zero, List.set_cons_succ]
            refine wpAnyY_takeC (v := ?_) [] rA4_9 rA4o_9 (fun _ _ _ h => h) (Or.inl ⟨by kernel_rfl, ?_⟩) hS ?_
            rotate_left
            · intro w' hSw; go_simp; with_reducible rfl
            try simp only [Act.put, List.getElem_toArray, List.getElem_cons_zero, List.getElem_cons_succ, List.setIfInBounds_toArray, List.set_cons_zero, List.set_cons_succ]
            refine wpAnyY_takeC (v := ?_) [25, 12, 11] rA4_10 rA4o_10 (fun _ _ _ h => h) (Or.inl ⟨by kernel_rfl, ?_⟩) hS ?_
            rotate_left
            · intro w' hSw; go_simp; with_reducible rfl
            try simp only [Act.put, List.getElem_toArray, List.getElem_cons_zero, List.getElem_cons_succ, List.setIfInBounds_toArray, List.set_cons_zero, List.set_cons_succ]
            refine wpAnyY_takeC (v := ?_) [25, 12] rA4_11 rA4o_11 (fun _ _ _ h => h) (Or.inl ⟨by kernel_rfl, ?_⟩) hS ?_
            rotate_left
            · intro w' hSw; go_simp; with_reducible rfl
            try simp only [Act.put, List.getElem_toArray, List.getElem_cons_zero, List.getElem_cons_succ, List.setIfInBounds_toArray, List.set_cons_zero, List.set_cons_succ]
            refine wpAnyY_takeC (v := ?_) [25] rA4_12 rA4o_12 (fun _ _ _ h => h) (Or.inl ⟨by kernel_rfl, ?_⟩) hS ?_
            rotate_left
            · intro w' hSw; go_simp; with_reducible rfl
            try simp only [Act.put, List.getElem_toArray, List.getElem_cons_zero, List.getElem_cons_succ, List.setIfInBounds_toArray, List.set_cons_zero, List.set_cons_succ]
            refine wpAnyY_takeC (v := ?_) [25, 24, 17, 16, 14] rA4_13 rA4o_13 (fun _ _ _ h => h) (Or.inl ⟨by kernel_rfl, ?_⟩) hS ?_
            rotate_left
            · intro w' hSw; have l0 := hSw.1.lt; go_simp; with_reducible rfl
            try simp only [Act.put, List.getElem_toArray, List.getElem_cons_zero, List.getElem_cons_succ, List.setIfInBounds_toArray, List.set_cons_zero, List.set_cons_succ]
            refine wpAnyY_takeC (v := ?_) [25, 24, 17, 16] rA4_14 rA4o_14 (fun _ _ _ h => h) (Or.inl ⟨by kernel_rfl, ?_⟩) hS ?_
            rotate_left
            · intro w' hSw; have m4 := hSw.1.cell 4; have l0 := hSw.1.lt; go_simp; with_reducible rfl
            try simp only [Act.put, List.getElem_toArray, List.getElem_cons_zero, List.getElem_cons_succ, List.setIfInBounds_toArray, List.set_cons_zero, List.set_cons_succ]
            refine wpAnyY_takeC (v := ?_) [25, 24, 17, 16] rA4_15 rA4o_15 (fun _ _ _ h => h) (Or.inl ⟨by kernel_rfl, ?_⟩) hS ?_
            rotate_left
            · intro w' hSw; go_simp; with_reducible rfl
            try simp only [Act.put, List.getElem_toArray, List.getElem_cons_zero, List.getElem_cons_succ, List.setIfInBounds_toArray, List.set_cons_zero, List.set_cons_succ]
            refine wpAnyY_takeC (v := ?_) [25, 24, 17] rA4_16 rA4o_16 (fun _ _ _ h => h) (Or.inl ⟨by kernel_rfl, ?_⟩) hS ?_
            rotate_left
            · intro w' hSw; go_simp; with_reducible rfl
            try simp only [Act.put, List.getElem_toArray, List.getElem_cons_zero, List.getElem_cons_succ, List.setIfInBounds_toArray, List.set_cons_zero, List.set_cons_succ]
            refine wpAnyY_takeC (v := ?_) [25, 24] rA4_17 rA4o_17 (fun _ _ _ h => h) (Or.inl ⟨by kernel_rfl, ?_⟩) hS ?_
            rotate_left
            · intro w' hSw; have q1 := hSw.2.1; go_simp; with_reducible rfl
            try simp only [Act.put, List.getElem_toArray, List.getElem_cons_zero, List.getElem_cons_succ, List.setIfInBounds_toArray, List.set_cons_zero, List.set_cons_succ]
            refine wpAnyY_takeC (v := ?_) [25, 24, 23, 22, 19] rA4_18 rA4o_18 (fun _ _ _ h => h) (Or.inl ⟨by kernel_rfl, ?_⟩) hS ?_
            rotate_left
            · intro w' hSw; have l0 := hSw.1.lt; go_simp; with_reducible rfl
            try simp only [Act.put, List.getElem_toArray, List.getElem_cons_zero, List.getElem_cons_succ, List.setIfInBounds_toArray, List.set_cons_zero, List.set_cons_succ]
            refine wpAnyY_takeC (v := ?_) [25, 24, 23, 22] rA4_19 rA4o_19 (fun _ _ _ h => h) (Or.inl ⟨by kernel_rfl, ?_⟩) hS ?_
            rotate_left
            · intro w' hSw; have m4 := hSw.1.cell 4; have l0 := hSw.1.lt; go_simp; with_reducible rfl
            try simp only [Act.put, List.getElem_toArray, List.getElem_cons_zero, List.getElem_cons_succ, List.setIfInBounds_toArray, List.set_cons_zero, List.set_cons_succ]
            refine wpAnyY_takeC (v := ?_) [25, 24, 23, 22, 21] rA4_20 rA4o_20 (fun _ _ _ h => h) (Or.inl ⟨by kernel_rfl, ?_⟩) hS ?_
            rotate_left
            · intro w' hSw; go_simp; with_reducible rfl
            try simp only [Act.put, List.getElem_toArray, List.getElem_cons_zero, List.getElem_cons_succ, List.setIfInBounds_toArray, List.set_cons_zero, List.set_cons_succ]
            refine wpAnyY_takeC (v := ?_) [25, 24, 23, 22] rA4_21 rA4o_21 (fun _ _ _ h => h) (Or.inl ⟨by kernel_rfl, ?_⟩) hS ?_
            rotate_left
            · intro w' hSw; go_simp; with_reducible rfl
            try simp only [Act.put, List.getElem_toArray, List.getElem_cons_zero, List.getElem_cons_succ, List.setIfInBounds_toArray, List.set_cons_zero, List.set_cons_succ]
            refine wpAnyY_takeC (v := ?_) [25, 24, 23] rA4_22 rA4o_22 (fun _ _ _ h => h) (Or.inl ⟨by kernel_rfl, ?_⟩) hS ?_
            rotate_left
            · intro w' hSw; go_simp; with_reducible rfl
            try simp only [Act.put, List.getElem_toArray, List.getElem_cons_zero, List.getElem_cons_succ, List.setIfInBounds_toArray, List.set_cons_zero, List.set_cons_succ]
            refine wpAnyY_takeC (v := ?_) [25, 24] rA4_23 rA4o_23 (fun _ _ _ h => h) (Or.inl ⟨by kernel_rfl, ?_⟩) hS ?_
            rotate_left
            · intro w' hSw; have q2 := hSw.2.2; go_simp; with_reducible rfl
            try simp only [Act.put, List.getElem_toArray, List.getElem_cons_zero, List.getElem_cons_succ, List.setIfInBounds_toArray, List.set_cons_zero, List.set_cons_succ]
            refine wpAnyY_takeC (v := ?_) [25] rA4_24 rA4o_24 (fun _ _ _ h => h) (Or.inl ⟨by kernel_rfl, ?_⟩) hS ?_
            rotate_left
            · intro w' hSw; go_simp; with_reducible rfl
            try simp only [Act.put, List.getElem_toArray, List.getElem_cons_zero, List.getElem_cons_succ, List.setIfInBounds_toArray, List.set_cons_zero, List.set_cons_succ]
            refine wpAnyY_takeC (v := ?_) [] rA4_25 rA4o_25 (fun _ _ _ h => h) (Or.inl ⟨by kernel_rfl, ?_⟩) hS ?_
            rotate_left
            · intro w' hSw; go_simp; with_reducible rfl
            try simp only [Act.put, List.getElem_toArray, List.getElem_cons_zero, List.getElem_cons_succ, List.setIfInBounds_toArray, List.set_cons_zero, List.set_cons_succ]
            refine wpAnyY_oneW (i := 26) (by kernel_rfl) rA4o_26 (by kernel_rfl) (by kernel_rfl) (fun K26 hK26 => ?_)
            go_simp
            refine hK26.out _ _ ?_
            clear hK26
            try simp only [Act.put, List.getElem_toArray, List.getElem_cons_zero, List.getElem_cons_succ, List.setIfInBounds_toArray, List.set_cons_zero, List.set_cons_succ]
            refine wpAnyY_done (by kernel_rfl) ?_ _
            clear hS hSk
            have hGz := hG.t ga
            go_wp2_with fail
            go_roundw
            case rel => exact ⟨k + 1, by omega, by go_num, fun j hj => by
              rcases Nat.lt_or_ge j k with h4 | h4
              · exact HN.out j h4
              · obtain rfl : j = k := by omega
                exact HOKK.out, hGz⟩
            case measure => simp [intOf] <;> omega
    · obtain rfl : k = zpools.length := by omega
      have hki : ¬ ((zpools.length : Nat) : Int) < zpools.length := by omega
      have hgood := HGOOD.out HN.out
      have m0 := bo.cell 0
      have m1 := bo.cell 1
      have m2 := bo.cell 2
      have m3 := bo.cell 3
      have H1 := Lib.hid (fun W => within_any zrank 1 12 W)
      have H2 := Lib.hid (fun W => within_any zday 1 2 W)
      have H3 := Lib.hid (fun W => within_any zbird 0 9999 W)
      have H4 := Lib.hid (fun W => within_any zowner 0 99 W)
      have HP : Hid (∀ bb W', (isInB zbird 0 9999 && (isInB zowner 0 99 && (isInB zrank 1 12 && isInB zday 1 2 || decide (zrank = 0) && decide (zday = 0)))) = bb → G w W' → (Ending.returned (.bool bb) = .returned (.bool RB) ∧ G w W')) := fun bb W' a b => ⟨by rw [hgood, a], b⟩
      clear hgood HN HF HBAD HGOOD h0
      cases h1 : isInB zrank 1 12
      · have HHF : Hid ((isInB zrank 1 12 && isInB zday 1 2) = false) := by show _ = _; rw [h1]; rfl
        rw [h1] at H1
        clear h1
        cases h3 : isInB zbird 0 9999
        · have HV : ((isInB zbird 0 9999 && (isInB zowner 0 99 && (isInB zrank 1 12 && isInB zday 1 2 || decide (zrank = 0) && decide (zday = 0)))) = false) := by rw [h3]; rfl
          rw [h3] at H3
          clear h3
          go_wp2_with (first | (go_at_call 69; refine (H1.out _).mono ?_; rintro e wa ⟨rfl, hGa⟩; clear m0 m1 m2 m3 m4 l0 H1; have ba := bo.keep hGa; have m0 := ba.cell 0; have m1 := ba.cell 1; have m2 := ba.cell 2; have m3 := ba.cell 3; have l0 := ba.lt) | (go_at_call 69; refine (H3.out _).mono ?_; rintro e wc ⟨rfl, hGc⟩; clear m0 m1 m2 m3 l0 H3; have bc := ba.keep hGc; have m0 := bc.cell 0; have m1 := bc.cell 1; have m2 := bc.cell 2; have m3 := bc.cell 3; have l0 := bc.lt))
          have HZ := Lib.hid (HP.out false _ HV (g0.t ((hG.t hGa).t hGc)))
          first | exact HZ.out | (go_ret; exact HZ.out)
        · cases h4 : isInB zowner 0 99
          · have HV : ((isInB zbird 0 9999 && (isInB zowner 0 99 && (isInB zrank 1 12 && isInB zday 1 2 || decide (zrank = 0) && decide (zday = 0)))) = false) := by rw [h3, h4]; rfl
            rw [h3] at H3
            rw [h4] at H4
            clear h3 h4
            go_wp2_with (first | (go_at_call 69; refine (H1.out _).mono ?_; rintro e wa ⟨rfl, hGa⟩; clear m0 m1 m2 m3 m4 l0 H1; have ba := bo.keep hGa; have m0 := ba.cell 0; have m1 := ba.cell 1; have m2 := ba.cell 2; have m3 := ba.cell 3; have l0 := ba.lt) | (go_at_call 69; refine (H3.out _).mono ?_; rintro e wc ⟨rfl, hGc⟩; clear m0 m1 m2 m3 l0 H3; have bc := ba.keep hGc; have m0 := bc.cell 0; have m1 := bc.cell 1; have m2 := bc.cell 2; have m3 := bc.cell 3; have l0 := bc.lt) | (go_at_call 69; refine (H4.out _).mono ?_; rintro e wd ⟨rfl, hGd⟩; clear m0 m1 m2 m3 l0 H4; have bd := bc.keep hGd; have m0 := bd.cell 0; have m1 := bd.cell 1; have m2 := bd.cell 2; have m3 := bd.cell 3; have l0 := bd.lt))
            have HZ := Lib.hid (HP.out false _ HV (g0.t (((hG.t hGa).t hGc).t hGd)))
            first | exact HZ.out | (go_ret; exact HZ.out)
          · rw [h3] at H3
            rw [h4] at H4
            by_cases r0 : zrank = 0
            · by_cases d0 : zday = 0
              · have HV : ((isInB zbird 0 9999 && (isInB zowner 0 99 && (isInB zrank 1 12 && isInB zday 1 2 || decide (zrank = 0) && decide (zday = 0)))) = true) := by rw [h3, h4, HHF.out, decide_eq_true r0, decide_eq_true d0]; rfl
                have hrb : (zrank == 0) = true := by simpa using r0
                have hdb : (zday == 0) = true := by simpa using d0
                clear h3 h4 r0 d0
                go_wp2_with (first | (go_at_call 69; refine (H1.out _).mono ?_; rintro e wa ⟨rfl, hGa⟩; clear m0 m1 m2 m3 m4 l0 H1; have ba := bo.keep hGa; have m0 := ba.cell 0; have m1 := ba.cell 1; have m2 := ba.cell 2; have m3 := ba.cell 3; have l0 := ba.lt) | (go_at_call 69; refine (H3.out _).mono ?_; rintro e wc ⟨rfl, hGc⟩; clear m0 m1 m2 m3 l0 H3; have bc := ba.keep hGc; have m0 := bc.cell 0; have m1 := bc.cell 1; have m2 := bc.cell 2; have m3 := bc.cell 3; have l0 := bc.lt) | (go_at_call 69; refine (H4.out _).mono ?_; rintro e wd ⟨rfl, hGd⟩; clear m0 m1 m2 m3 l0 H4; have bd := bc.keep hGd; have m0 := bd.cell 0; have m1 := bd.cell 1; have m2 := bd.cell 2; have m3 := bd.cell 3; have l0 := bd.lt))
                have HZ := Lib.hid (HP.out true _ HV (g0.t (((hG.t hGa).t hGc).t hGd)))
                first | exact HZ.out | (go_ret; exact HZ.out)
              · have HV : ((isInB zbird 0 9999 && (isInB zowner 0 99 && (isInB zrank 1 12 && isInB zday 1 2 || decide (zrank = 0) && decide (zday = 0)))) = false) := by rw [h3, h4, HHF.out, decide_eq_true r0, decide_eq_false d0]; rfl
                have hrb : (zrank == 0) = true := by simpa using r0
                have hdb : (zday == 0) = false := by simpa using d0
                clear h3 h4 r0 d0
                go_wp2_with (first | (go_at_call 69; refine (H1.out _).mono ?_; rintro e wa ⟨rfl, hGa⟩; clear m0 m1 m2 m3 m4 l0 H1; have ba := bo.keep hGa; have m0 := ba.cell 0; have m1 := ba.cell 1; have m2 := ba.cell 2; have m3 := ba.cell 3; have l0 := ba.lt) | (go_at_call 69; refine (H3.out _).mono ?_; rintro e wc ⟨rfl, hGc⟩; clear m0 m1 m2 m3 l0 H3; have bc := ba.keep hGc; have m0 := bc.cell 0; have m1 := bc.cell 1; have m2 := bc.cell 2; have m3 := bc.cell 3; have l0 := bc.lt) | (go_at_call 69; refine (H4.out _).mono ?_; rintro e wd ⟨rfl, hGd⟩; clear m0 m1 m2 m3 l0 H4; have bd := bc.keep hGd; have m0 := bd.cell 0; have m1 := bd.cell 1; have m2 := bd.cell 2; have m3 := bd.cell 3; have l0 := bd.lt))
                have HZ := Lib.hid (HP.out false _ HV (g0.t (((hG.t hGa).t hGc).t hGd)))
                first | exact HZ.out | (go_ret; exact HZ.out)
            · have HV : ((isInB zbird 0 9999 && (isInB zowner 0 99 && (isInB zrank 1 12 && isInB zday 1 2 || decide (zrank = 0) && decide (zday = 0)))) = false) := by rw [h3, h4, HHF.out, decide_eq_false r0]; rfl
              have hrb : (zrank == 0) = false := by simpa using r0
              clear h3 h4 r0
              go_wp2_with (first | (go_at_call 69; refine (H1.out _).mono ?_; rintro e wa ⟨rfl, hGa⟩; clear m0 m1 m2 m3 m4 l0 H1; have ba := bo.keep hGa; have m0 := ba.cell 0; have m1 := ba.cell 1; have m2 := ba.cell 2; have m3 := ba.cell 3; have l0 := ba.lt) | (go_at_call 69; refine (H3.out _).mono ?_; rintro e wc ⟨rfl, hGc⟩; clear m0 m1 m2 m3 l0 H3; have bc := ba.keep hGc; have m0 := bc.cell 0; have m1 := bc.cell 1; have m2 := bc.cell 2; have m3 := bc.cell 3; have l0 := bc.lt) | (go_at_call 69; refine (H4.out _).mono ?_; rintro e wd ⟨rfl, hGd⟩; clear m0 m1 m2 m3 l0 H4; have bd := bc.keep hGd; have m0 := bd.cell 0; have m1 := bd.cell 1; have m2 := bd.cell 2; have m3 := bd.cell 3; have l0 := bd.lt))
              have HZ := Lib.hid (HP.out false _ HV (g0.t (((hG.t hGa).t hGc).t hGd)))
              first | exact HZ.out | (go_ret; exact HZ.out)
      · cases h2 : isInB zday 1 2
        · have HHF : Hid ((isInB zrank 1 12 && isInB zday 1 2) = false) := by show _ = _; rw [h1, h2]; rfl
          rw [h1] at H1
          rw [h2] at H2
          clear h1 h2
          cases h3 : isInB zbird 0 9999
          · have HV : ((isInB zbird 0 9999 && (isInB zowner 0 99 && (isInB zrank 1 12 && isInB zday 1 2 || decide (zrank = 0) && decide (zday = 0)))) = false) := by rw [h3]; rfl
            rw [h3] at H3
            clear h3
            go_wp2_with (first | (go_at_call 69; refine (H1.out _).mono ?_; rintro e wa ⟨rfl, hGa⟩; clear m0 m1 m2 m3 m4 l0 H1; have ba := bo.keep hGa; have m0 := ba.cell 0; have m1 := ba.cell 1; have m2 := ba.cell 2; have m3 := ba.cell 3; have l0 := ba.lt) | (go_at_call 69; refine (H2.out _).mono ?_; rintro e wb ⟨rfl, hGb⟩; clear m0 m1 m2 m3 l0 H2; have bb := ba.keep hGb; have m0 := bb.cell 0; have m1 := bb.cell 1; have m2 := bb.cell 2; have m3 := bb.cell 3; have l0 := bb.lt) | (go_at_call 69; refine (H3.out _).mono ?_; rintro e wc ⟨rfl, hGc⟩; clear m0 m1 m2 m3 l0 H3; have bc := bb.keep hGc; have m0 := bc.cell 0; have m1 := bc.cell 1; have m2 := bc.cell 2; have m3 := bc.cell 3; have l0 := bc.lt))
            have HZ := Lib.hid (HP.out false _ HV (g0.t (((hG.t hGa).t hGb).t hGc)))
            first | exact HZ.out | (go_ret; exact HZ.out)
          · cases h4 : isInB zowner 0 99
            · have HV : ((isInB zbird 0 9999 && (isInB zowner 0 99 && (isInB zrank 1 12 && isInB zday 1 2 || decide (zrank = 0) && decide (zday = 0)))) = false) := by rw [h3, h4]; rfl
              rw [h3] at H3
              rw [h4] at H4
              clear h3 h4
              go_wp2_with (first | (go_at_call 69; refine (H1.out _).mono ?_; rintro e wa ⟨rfl, hGa⟩; clear m0 m1 m2 m3 m4 l0 H1; have ba := bo.keep hGa; have m0 := ba.cell 0; have m1 := ba.cell 1; have m2 := ba.cell 2; have m3 := ba.cell 3; have l0 := ba.lt) | (go_at_call 69; refine (H2.out _).mono ?_; rintro e wb ⟨rfl, hGb⟩; clear m0 m1 m2 m3 l0 H2; have bb := ba.keep hGb; have m0 := bb.cell 0; have m1 := bb.cell 1; have m2 := bb.cell 2; have m3 := bb.cell 3; have l0 := bb.lt) | (go_at_call 69; refine (H3.out _).mono ?_; rintro e wc ⟨rfl, hGc⟩; clear m0 m1 m2 m3 l0 H3; have bc := bb.keep hGc; have m0 := bc.cell 0; have m1 := bc.cell 1; have m2 := bc.cell 2; have m3 := bc.cell 3; have l0 := bc.lt) | (go_at_call 69; refine (H4.out _).mono ?_; rintro e wd ⟨rfl, hGd⟩; clear m0 m1 m2 m3 l0 H4; have bd := bc.keep hGd; have m0 := bd.cell 0; have m1 := bd.cell 1; have m2 := bd.cell 2; have m3 := bd.cell 3; have l0 := bd.lt))
              have HZ := Lib.hid (HP.out false _ HV (g0.t ((((hG.t hGa).t hGb).t hGc).t hGd)))
              first | exact HZ.out | (go_ret; exact HZ.out)
            · rw [h3] at H3
              rw [h4] at H4
              by_cases r0 : zrank = 0
              · by_cases d0 : zday = 0
                · have HV : ((isInB zbird 0 9999 && (isInB zowner 0 99 && (isInB zrank 1 12 && isInB zday 1 2 || decide (zrank = 0) && decide (zday = 0)))) = true) := by rw [h3, h4, HHF.out, decide_eq_true r0, decide_eq_true d0]; rfl
                  have hrb : (zrank == 0) = true := by simpa using r0
                  have hdb : (zday == 0) = true := by simpa using d0
                  clear h3 h4 r0 d0
                  go_wp2_with (first | (go_at_call 69; refine (H1.out _).mono ?_; rintro e wa ⟨rfl, hGa⟩; clear m0 m1 m2 m3 m4 l0 H1; have ba := bo.keep hGa; have m0 := ba.cell 0; have m1 := ba.cell 1; have m2 := ba.cell 2; have m3 := ba.cell 3; have l0 := ba.lt) | (go_at_call 69; refine (H2.out _).mono ?_; rintro e wb ⟨rfl, hGb⟩; clear m0 m1 m2 m3 l0 H2; have bb := ba.keep hGb; have m0 := bb.cell 0; have m1 := bb.cell 1; have m2 := bb.cell 2; have m3 := bb.cell 3; have l0 := bb.lt) | (go_at_call 69; refine (H3.out _).mono ?_; rintro e wc ⟨rfl, hGc⟩; clear m0 m1 m2 m3 l0 H3; have bc := bb.keep hGc; have m0 := bc.cell 0; have m1 := bc.cell 1; have m2 := bc.cell 2; have m3 := bc.cell 3; have l0 := bc.lt) | (go_at_call 69; refine (H4.out _).mono ?_; rintro e wd ⟨rfl, hGd⟩; clear m0 m1 m2 m3 l0 H4; have bd := bc.keep hGd; have m0 := bd.cell 0; have m1 := bd.cell 1; have m2 := bd.cell 2; have m3 := bd.cell 3; have l0 := bd.lt))
                  have HZ := Lib.hid (HP.out true _ HV (g0.t ((((hG.t hGa).t hGb).t hGc).t hGd)))
                  first | exact HZ.out | (go_ret; exact HZ.out)
                · have HV : ((isInB zbird 0 9999 && (isInB zowner 0 99 && (isInB zrank 1 12 && isInB zday 1 2 || decide (zrank = 0) && decide (zday = 0)))) = false) := by rw [h3, h4, HHF.out, decide_eq_true r0, decide_eq_false d0]; rfl
                  have hrb : (zrank == 0) = true := by simpa using r0
                  have hdb : (zday == 0) = false := by simpa using d0
                  clear h3 h4 r0 d0
                  go_wp2_with (first | (go_at_call 69; refine (H1.out _).mono ?_; rintro e wa ⟨rfl, hGa⟩; clear m0 m1 m2 m3 m4 l0 H1; have ba := bo.keep hGa; have m0 := ba.cell 0; have m1 := ba.cell 1; have m2 := ba.cell 2; have m3 := ba.cell 3; have l0 := ba.lt) | (go_at_call 69; refine (H2.out _).mono ?_; rintro e wb ⟨rfl, hGb⟩; clear m0 m1 m2 m3 l0 H2; have bb := ba.keep hGb; have m0 := bb.cell 0; have m1 := bb.cell 1; have m2 := bb.cell 2; have m3 := bb.cell 3; have l0 := bb.lt) | (go_at_call 69; refine (H3.out _).mono ?_; rintro e wc ⟨rfl, hGc⟩; clear m0 m1 m2 m3 l0 H3; have bc := bb.keep hGc; have m0 := bc.cell 0; have m1 := bc.cell 1; have m2 := bc.cell 2; have m3 := bc.cell 3; have l0 := bc.lt) | (go_at_call 69; refine (H4.out _).mono ?_; rintro e wd ⟨rfl, hGd⟩; clear m0 m1 m2 m3 l0 H4; have bd := bc.keep hGd; have m0 := bd.cell 0; have m1 := bd.cell 1; have m2 := bd.cell 2; have m3 := bd.cell 3; have l0 := bd.lt))
                  have HZ := Lib.hid (HP.out false _ HV (g0.t ((((hG.t hGa).t hGb).t hGc).t hGd)))
                  first | exact HZ.out | (go_ret; exact HZ.out)
              · have HV : ((isInB zbird 0 9999 && (isInB zowner 0 99 && (isInB zrank 1 12 && isInB zday 1 2 || decide (zrank = 0) && decide (zday = 0)))) = false) := by rw [h3, h4, HHF.out, decide_eq_false r0]; rfl
                have hrb : (zrank == 0) = false := by simpa using r0
                clear h3 h4 r0
                go_wp2_with (first | (go_at_call 69; refine (H1.out _).mono ?_; rintro e wa ⟨rfl, hGa⟩; clear m0 m1 m2 m3 m4 l0 H1; have ba := bo.keep hGa; have m0 := ba.cell 0; have m1 := ba.cell 1; have m2 := ba.cell 2; have m3 := ba.cell 3; have l0 := ba.lt) | (go_at_call 69; refine (H2.out _).mono ?_; rintro e wb ⟨rfl, hGb⟩; clear m0 m1 m2 m3 l0 H2; have bb := ba.keep hGb; have m0 := bb.cell 0; have m1 := bb.cell 1; have m2 := bb.cell 2; have m3 := bb.cell 3; have l0 := bb.lt) | (go_at_call 69; refine (H3.out _).mono ?_; rintro e wc ⟨rfl, hGc⟩; clear m0 m1 m2 m3 l0 H3; have bc := bb.keep hGc; have m0 := bc.cell 0; have m1 := bc.cell 1; have m2 := bc.cell 2; have m3 := bc.cell 3; have l0 := bc.lt) | (go_at_call 69; refine (H4.out _).mono ?_; rintro e wd ⟨rfl, hGd⟩; clear m0 m1 m2 m3 l0 H4; have bd := bc.keep hGd; have m0 := bd.cell 0; have m1 := bd.cell 1; have m2 := bd.cell 2; have m3 := bd.cell 3; have l0 := bd.lt))
                have HZ := Lib.hid (HP.out false _ HV (g0.t ((((hG.t hGa).t hGb).t hGc).t hGd)))
                first | exact HZ.out | (go_ret; exact HZ.out)
        · have HH1 := Lib.hid h1
          have HH2 := Lib.hid h2
          rw [h1] at H1
          rw [h2] at H2
          clear h1 h2
          cases h3 : isInB zbird 0 9999
          · have HV : ((isInB zbird 0 9999 && (isInB zowner 0 99 && (isInB zrank 1 12 && isInB zday 1 2 || decide (zrank = 0) && decide (zday = 0)))) = false) := by rw [h3]; rfl
            rw [h3] at H3
            clear h3
            go_wp2_with (first | (go_at_call 69; refine (H1.out _).mono ?_; rintro e wa ⟨rfl, hGa⟩; clear m0 m1 m2 m3 m4 l0 H1; have ba := bo.keep hGa; have m0 := ba.cell 0; have m1 := ba.cell 1; have m2 := ba.cell 2; have m3 := ba.cell 3; have l0 := ba.lt) | (go_at_call 69; refine (H2.out _).mono ?_; rintro e wb ⟨rfl, hGb⟩; clear m0 m1 m2 m3 l0 H2; have bb := ba.keep hGb; have m0 := bb.cell 0; have m1 := bb.cell 1; have m2 := bb.cell 2; have m3 := bb.cell 3; have l0 := bb.lt) | (go_at_call 69; refine (H3.out _).mono ?_; rintro e wc ⟨rfl, hGc⟩; clear m0 m1 m2 m3 l0 H3; have bc := bb.keep hGc; have m0 := bc.cell 0; have m1 := bc.cell 1; have m2 := bc.cell 2; have m3 := bc.cell 3; have l0 := bc.lt))
            have HZ := Lib.hid (HP.out false _ HV (g0.t (((hG.t hGa).t hGb).t hGc)))
            first | exact HZ.out | (go_ret; exact HZ.out)
          · cases h4 : isInB zowner 0 99
            · have HV : ((isInB zbird 0 9999 && (isInB zowner 0 99 && (isInB zrank 1 12 && isInB zday 1 2 || decide (zrank = 0) && decide (zday = 0)))) = false) := by rw [h3, h4]; rfl
              rw [h3] at H3
              rw [h4] at H4
              clear h3 h4
              go_wp2_with (first | (go_at_call 69; refine (H1.out _).mono ?_; rintro e wa ⟨rfl, hGa⟩; clear m0 m1 m2 m3 m4 l0 H1; have ba := bo.keep hGa; have m0 := ba.cell 0; have m1 := ba.cell 1; have m2 := ba.cell 2; have m3 := ba.cell 3; have l0 := ba.lt) | (go_at_call 69; refine (H2.out _).mono ?_; rintro e wb ⟨rfl, hGb⟩; clear m0 m1 m2 m3 l0 H2; have bb := ba.keep hGb; have m0 := bb.cell 0; have m1 := bb.cell 1; have m2 := bb.cell 2; have m3 := bb.cell 3; have l0 := bb.lt) | (go_at_call 69; refine (H3.out _).mono ?_; rintro e wc ⟨rfl, hGc⟩; clear m0 m1 m2 m3 l0 H3; have bc := bb.keep hGc; have m0 := bc.cell 0; have m1 := bc.cell 1; have m2 := bc.cell 2; have m3 := bc.cell 3; have l0 := bc.lt) | (go_at_call 69; refine (H4.out _).mono ?_; rintro e wd ⟨rfl, hGd⟩; clear m0 m1 m2 m3 l0 H4; have bd := bc.keep hGd; have m0 := bd.cell 0; have m1 := bd.cell 1; have m2 := bd.cell 2; have m3 := bd.cell 3; have l0 := bd.lt))
              have HZ := Lib.hid (HP.out false _ HV (g0.t ((((hG.t hGa).t hGb).t hGc).t hGd)))
              first | exact HZ.out | (go_ret; exact HZ.out)
            · have HV : ((isInB zbird 0 9999 && (isInB zowner 0 99 && (isInB zrank 1 12 && isInB zday 1 2 || decide (zrank = 0) && decide (zday = 0)))) = true) := by rw [h3, h4, HH1.out, HH2.out]; rfl
              rw [h3] at H3
              rw [h4] at H4
              clear h3 h4
              go_wp2_with (first | (go_at_call 69; refine (H1.out _).mono ?_; rintro e wa ⟨rfl, hGa⟩; clear m0 m1 m2 m3 m4 l0 H1; have ba := bo.keep hGa; have m0 := ba.cell 0; have m1 := ba.cell 1; have m2 := ba.cell 2; have m3 := ba.cell 3; have l0 := ba.lt) | (go_at_call 69; refine (H2.out _).mono ?_; rintro e wb ⟨rfl, hGb⟩; clear m0 m1 m2 m3 l0 H2; have bb := ba.keep hGb; have m0 := bb.cell 0; have m1 := bb.cell 1; have m2 := bb.cell 2; have m3 := bb.cell 3; have l0 := bb.lt) | (go_at_call 69; refine (H3.out _).mono ?_; rintro e wc ⟨rfl, hGc⟩; clear m0 m1 m2 m3 l0 H3; have bc := bb.keep hGc; have m0 := bc.cell 0; have m1 := bc.cell 1; have m2 := bc.cell 2; have m3 := bc.cell 3; have l0 := bc.lt) | (go_at_call 69; refine (H4.out _).mono ?_; rintro e wd ⟨rfl, hGd⟩; clear m0 m1 m2 m3 l0 H4; have bd := bc.keep hGd; have m0 := bd.cell 0; have m1 := bd.cell 1; have m2 := bd.cell 2; have m3 := bd.cell 3; have l0 := bd.lt))
              have HZ := Lib.hid (HP.out true _ HV (g0.t ((((hG.t hGa).t hGb).t hGc).t hGd)))
              first | exact HZ.out | (go_ret; exact HZ.out)
end Go.Proofs.YtnkmcoljijmgpaaGreat
