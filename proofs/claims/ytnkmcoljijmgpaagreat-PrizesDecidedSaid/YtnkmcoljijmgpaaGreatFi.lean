import Derived.Test.YtnkmcoljijmgpaaGreatRf
import Derived.Test.YtnkmcoljijmgpaaGreatCb
set_option linter.unusedSimpArgs false
set_option linter.unusedVariables false
namespace Go.Proofs.YtnkmcoljijmgpaaGreat
open Go.RowKit Go.Shelf Go.Sort Go.Maps
attribute [local go_sem] Oper.semAt_some
set_option maxRecDepth 100000 in
set_option maxHeartbeats 8000000 in
theorem DecidedLaw (r : Ra) (x : Int) (up : Bool) (p b : Int) (w : World) (h : r.Laid w) (hn : r.Nil) : Calls Tryz.prog 9 #[.agg r.v, .agg #[.int .i64 x, .bool up, .int .i64 p, .int .i64 b]] w fun e w' => e = .returned (.bool true) ∧ G w w' := by
  have HVA := Lib.hid (fun (W : World) (hW : G w W) => valid8_any r p W (h.keep hW))
  have HWK := Lib.hid (fun (W : World) => works_any W)
  have hrv : r.v = #[.slice r.ra r.racers.length r.rc, .slice r.pa r.pools.length r.pc, .slice r.ta r.protests.length r.tc] := rfl
  obtain ⟨W2, hW2⟩ : ∃ W2, W2 = (w.alloc (.cells #[.slice r.ra r.racers.length r.rc, .slice r.pa r.pools.length r.pc, .slice r.ta r.protests.length r.tc] 26)).alloc (.cells #[.int .i64 x, .bool up, .int .i64 p, .int .i64 b] 75) := ⟨_, rfl⟩
  have g0 : G w W2 := by rw [hW2]; exact ((G.rf _).a _).a _
  have b0 : Blk W2 w.heap.size 26 #[.slice r.ra r.racers.length r.rc, .slice r.pa r.pools.length r.pc, .slice r.ta r.protests.length r.tc] := by rw [hW2]; exact (Blk.new _ _ _).alloc _
  have b1 : Blk W2 (w.heap.size + 1) 75 #[.int .i64 x, .bool up, .int .i64 p, .int .i64 b] := by rw [hW2]; exact Blk.new1 _ _ _ _
  rw [hrv] at HVA ⊢
  go_enter Tryz.func9, Tryz.ntmps9
  go_upto_region 1 with fail
  change Code.wp _ _ _ _ ((w.alloc (.cells #[.slice r.ra r.racers.length r.rc, .slice r.pa r.pools.length r.pc, .slice r.ta r.protests.length r.tc] 26)).alloc (.cells #[.int .i64 x, .bool up, .int .i64 p, .int .i64 b] 75))
  rw [← hW2]
  clear hW2
  have hSk : ∀ W', G W2 W' → Blk W' w.heap.size 26 #[.slice r.ra r.racers.length r.rc, .slice r.pa r.pools.length r.pc, .slice r.ta r.protests.length r.tc] ∧ Blk W' (w.heap.size + 1) 75 #[.int .i64 x, .bool up, .int .i64 p, .int .i64 b] := fun W' hW => ⟨b0.keep hW, b1.keep hW⟩
  cases hVB : valR r p
  · rw [hVB] at HVA
    clear h hn
    refine wp_region_Y (S := fun W' => Blk W' w.heap.size 26 #[.slice r.ra r.racers.length r.rc, .slice r.pa r.pools.length r.pc, .slice r.ta r.protests.length r.tc] ∧ Blk W' (w.heap.size + 1) 75 #[.int .i64 x, .bool up, .int .i64 p, .int .i64 b]) 27 28 rfl (by kernel_rfl) (hSk _ (G.rf _).d) (fun hS => ?_)
    have gd : G W2 W2.drew := (G.rf _).d
    change wpAnyY _ _ opsD1 _ _ 27 28 #[false, false, false, false, false, false, false, false, false, false, false, false, false, false, false, false, false, false, false, false, false, false, false, false, false, false, false, false] _ _
    refine wpAnyY_takeC (v := ?_) [18, 10, 5, 3] rD1_0 rD1o_0 (fun _ _ _ h => h) (Or.inl ⟨by kernel_rfl, ?_⟩) hS ?_
    rotate_left
    · intro w' hSw; have s0 := hSw.1.cell 0; have s1 := hSw.1.cell 1; have s2 := hSw.1.cell 2; have s3 := hSw.1.lt; go_simp; with_reducible rfl
    try simp only [Act.put, List.getElem_toArray, List.getElem_cons_zero, List.getElem_cons_succ, List.setIfInBounds_toArray, List.set_cons_zero, List.set_cons_succ]
    refine wpAnyY_takeC (v := ?_) [18, 10, 5, 3, 2] rD1_1 rD1o_1 (fun _ _ _ h => h) (Or.inl ⟨by kernel_rfl, ?_⟩) hS ?_
    rotate_left
    · intro w' hSw; go_simp; with_reducible rfl
    try simp only [Act.put, List.getElem_toArray, List.getElem_cons_zero, List.getElem_cons_succ, List.setIfInBounds_toArray, List.set_cons_zero, List.set_cons_succ]
    refine wpAnyY_takeC (v := ?_) [18, 10, 5, 3] rD1_2 rD1o_2 (fun _ _ _ h => h) (Or.inl ⟨by kernel_rfl, ?_⟩) hS ?_
    rotate_left
    · intro w' hSw; have s0 := hSw.2.cell 2; have s1 := hSw.2.lt; go_simp; with_reducible rfl
    try simp only [Act.put, List.getElem_toArray, List.getElem_cons_zero, List.getElem_cons_succ, List.setIfInBounds_toArray, List.set_cons_zero, List.set_cons_succ]
    refine wpAnyY_oneSWC rD1_3 rD1o_3 (by kernel_rfl) (fun K3 hK3 => ?_)
    go_simp
    refine (HVA.out _ (g0.t gd)).mono ?_
    rintro e w2 ⟨rfl, hG2⟩
    have ga := gd.t hG2
    refine hK3.out _ _ (hSk _ ga) (fun hS => ?_)
    clear hK3
    try simp only [Act.put, List.getElem_toArray, List.getElem_cons_zero, List.getElem_cons_succ, List.setIfInBounds_toArray, List.set_cons_zero, List.set_cons_succ]
    refine wpAnyY_takeC (v := ?_) [18, 10, 5] rD1_4 rD1o_4 (fun _ _ _ h => h) (Or.inl ⟨by kernel_rfl, ?_⟩) hS ?_
    rotate_left
    · intro w' hSw; go_simp; with_reducible rfl
    try simp only [Act.put, List.getElem_toArray, List.getElem_cons_zero, List.getElem_cons_succ, List.setIfInBounds_toArray, List.set_cons_zero, List.set_cons_succ]
    refine wpAnyY_takeC (v := ?_) [18, 10] rD1_5 rD1o_5 (fun _ _ _ h => h) (Or.inl ⟨by kernel_rfl, ?_⟩) hS ?_
    rotate_left
    · intro w' hSw; go_simp; with_reducible rfl
    try simp only [Act.put, List.getElem_toArray, List.getElem_cons_zero, List.getElem_cons_succ, List.setIfInBounds_toArray, List.set_cons_zero, List.set_cons_succ]
    refine wpAnyY_takeC (v := undef) [18, 10, 9, 8, 7] rD1_6 rD1o_6 (fun _ _ _ h => h) (Or.inr ⟨by kernel_rfl, rfl⟩) hS ?_
    try simp only [Act.put, List.getElem_toArray, List.getElem_cons_zero, List.getElem_cons_succ, List.setIfInBounds_toArray, List.set_cons_zero, List.set_cons_succ]
    refine wpAnyY_takeC (v := undef) [18, 10, 9, 8] rD1_7 rD1o_7 (fun _ _ _ h => h) (Or.inr ⟨by kernel_rfl, rfl⟩) hS ?_
    try simp only [Act.put, List.getElem_toArray, List.getElem_cons_zero, List.getElem_cons_succ, List.setIfInBounds_toArray, List.set_cons_zero, List.set_cons_succ]
    refine wpAnyY_takeC (v := undef) [18, 10, 9] rD1_8 rD1o_8 (fun _ _ _ h => h) (Or.inr ⟨by kernel_rfl, rfl⟩) hS ?_
    try simp only [Act.put, List.getElem_toArray, List.getElem_cons_zero, List.getElem_cons_succ, List.setIfInBounds_toArray, List.set_cons_zero, List.set_cons_succ]
    refine wpAnyY_takeC (v := ?_) [18, 10] rD1_9 rD1o_9 (fun _ _ _ h => h) (Or.inl ⟨by kernel_rfl, ?_⟩) hS ?_
    rotate_left
    · intro w' hSw; go_simp; with_reducible rfl
    try simp only [Act.put, List.getElem_toArray, List.getElem_cons_zero, List.getElem_cons_succ, List.setIfInBounds_toArray, List.set_cons_zero, List.set_cons_succ]
    refine wpAnyY_takeC (v := ?_) [18] rD1_10 rD1o_10 (fun _ _ _ h => h) (Or.inl ⟨by kernel_rfl, ?_⟩) hS ?_
    rotate_left
    · intro w' hSw; go_simp; with_reducible rfl
    try simp only [Act.put, List.getElem_toArray, List.getElem_cons_zero, List.getElem_cons_succ, List.setIfInBounds_toArray, List.set_cons_zero, List.set_cons_succ]
    refine wpAnyY_takeC (v := undef) [18, 17, 16, 12] rD1_11 rD1o_11 (fun _ _ _ h => h) (Or.inr ⟨by kernel_rfl, rfl⟩) hS ?_
    try simp only [Act.put, List.getElem_toArray, List.getElem_cons_zero, List.getElem_cons_succ, List.setIfInBounds_toArray, List.set_cons_zero, List.set_cons_succ]
    refine wpAnyY_takeC (v := undef) [18, 17, 16] rD1_12 rD1o_12 (fun _ _ _ h => h) (Or.inr ⟨by kernel_rfl, rfl⟩) hS ?_
    try simp only [Act.put, List.getElem_toArray, List.getElem_cons_zero, List.getElem_cons_succ, List.setIfInBounds_toArray, List.set_cons_zero, List.set_cons_succ]
    refine wpAnyY_takeC (v := undef) [18, 17, 16, 15, 14] rD1_13 rD1o_13 (fun _ _ _ h => h) (Or.inr ⟨by kernel_rfl, rfl⟩) hS ?_
    try simp only [Act.put, List.getElem_toArray, List.getElem_cons_zero, List.getElem_cons_succ, List.setIfInBounds_toArray, List.set_cons_zero, List.set_cons_succ]
    refine wpAnyY_takeC (v := undef) [18, 17, 16, 15] rD1_14 rD1o_14 (fun _ _ _ h => h) (Or.inr ⟨by kernel_rfl, rfl⟩) hS ?_
    try simp only [Act.put, List.getElem_toArray, List.getElem_cons_zero, List.getElem_cons_succ, List.setIfInBounds_toArray, List.set_cons_zero, List.set_cons_succ]
    refine wpAnyY_takeC (v := undef) [18, 17, 16] rD1_15 rD1o_15 (fun _ _ _ h => h) (Or.inr ⟨by kernel_rfl, rfl⟩) hS ?_
    try simp only [Act.put, List.getElem_toArray, List.getElem_cons_zero, List.getElem_cons_succ, List.setIfInBounds_toArray, List.set_cons_zero, List.set_cons_succ]
    refine wpAnyY_takeC (v := undef) [18, 17] rD1_16 rD1o_16 (fun _ _ _ h => h) (Or.inr ⟨by kernel_rfl, rfl⟩) hS ?_
    try simp only [Act.put, List.getElem_toArray, List.getElem_cons_zero, List.getElem_cons_succ, List.setIfInBounds_toArray, List.set_cons_zero, List.set_cons_succ]
    refine wpAnyY_takeC (v := ?_) [18] rD1_17 rD1o_17 (fun _ _ _ h => h) (Or.inl ⟨by kernel_rfl, ?_⟩) hS ?_
    rotate_left
    · intro w' hSw; go_simp; with_reducible rfl
    try simp only [Act.put, List.getElem_toArray, List.getElem_cons_zero, List.getElem_cons_succ, List.setIfInBounds_toArray, List.set_cons_zero, List.set_cons_succ]
    refine wpAnyY_takeC (v := ?_) [] rD1_18 rD1o_18 (fun _ _ _ h => h) (Or.inl ⟨by kernel_rfl, ?_⟩) hS ?_
    rotate_left
    · intro w' hSw; go_simp; with_reducible rfl
    try simp only [Act.put, List.getElem_toArray, List.getElem_cons_zero, List.getElem_cons_succ, List.setIfInBounds_toArray, List.set_cons_zero, List.set_cons_succ]
    refine wpAnyY_takeC (v := undef) [26, 25, 22] rD1_19 rD1o_19 (fun _ _ _ h => h) (Or.inr ⟨by kernel_rfl, rfl⟩) hS ?_
    try simp only [Act.put, List.getElem_toArray, List.getElem_cons_zero, List.getElem_cons_succ, List.setIfInBounds_toArray, List.set_cons_zero, List.set_cons_succ]
    refine wpAnyY_takeC (v := undef) [26, 25, 22, 21] rD1_20 rD1o_20 (fun _ _ _ h => h) (Or.inr ⟨by kernel_rfl, rfl⟩) hS ?_
    try simp only [Act.put, List.getElem_toArray, List.getElem_cons_zero, List.getElem_cons_succ, List.setIfInBounds_toArray, List.set_cons_zero, List.set_cons_succ]
    refine wpAnyY_takeC (v := undef) [26, 25, 22] rD1_21 rD1o_21 (fun _ _ _ h => h) (Or.inr ⟨by kernel_rfl, rfl⟩) hS ?_
    try simp only [Act.put, List.getElem_toArray, List.getElem_cons_zero, List.getElem_cons_succ, List.setIfInBounds_toArray, List.set_cons_zero, List.set_cons_succ]
    refine wpAnyY_takeC (v := undef) [26, 25, 24] rD1_23 rD1o_23 (fun _ _ _ h => h) (Or.inr ⟨by kernel_rfl, rfl⟩) hS ?_
    try simp only [Act.put, List.getElem_toArray, List.getElem_cons_zero, List.getElem_cons_succ, List.setIfInBounds_toArray, List.set_cons_zero, List.set_cons_succ]
    refine wpAnyY_takeC (v := undef) [26, 25] rD1_24 rD1o_24 (fun _ _ _ h => h) (Or.inr ⟨by kernel_rfl, rfl⟩) hS ?_
    try simp only [Act.put, List.getElem_toArray, List.getElem_cons_zero, List.getElem_cons_succ, List.setIfInBounds_toArray, List.set_cons_zero, List.set_cons_succ]
    refine wpAnyY_oneSUC rD1_22 rD1o_22 (by kernel_rfl) hS ?_
    try simp only [Act.put, List.getElem_toArray, List.getElem_cons_zero, List.getElem_cons_succ, List.setIfInBounds_toArray, List.set_cons_zero, List.set_cons_succ]
    refine wpAnyY_oneSUC rD1_25 rD1o_25 (by kernel_rfl) hS ?_
    try simp only [Act.put, List.getElem_toArray, List.getElem_cons_zero, List.getElem_cons_succ, List.setIfInBounds_toArray, List.set_cons_zero, List.set_cons_succ]
    refine wpAnyY_takeC (v := undef) [] rD1_26 rD1o_26 (fun _ _ _ h => h) (Or.inr ⟨by kernel_rfl, rfl⟩) hS ?_
    try simp only [Act.put, List.getElem_toArray, List.getElem_cons_zero, List.getElem_cons_succ, List.setIfInBounds_toArray, List.set_cons_zero, List.set_cons_succ]
    refine wpAnyY_oneW (i := 27) (by kernel_rfl) rD1o_27 (by kernel_rfl) (by kernel_rfl) (fun K27 hK27 => ?_)
    go_simp
    refine hK27.out _ _ ?_
    clear hK27
    try simp only [Act.put, List.getElem_toArray, List.getElem_cons_zero, List.getElem_cons_succ, List.setIfInBounds_toArray, List.set_cons_zero, List.set_cons_succ]
    refine wpAnyY_done (by kernel_rfl) ?_ _
    clear hS
    go_wp2_with (go_at_call 15; refine (HWK.out _).mono ?_; rintro e w9 ⟨rfl, hG9⟩)
    have gz := (g0.t ga).t hG9
    first | exact ⟨rfl, gz⟩ | (go_ret; exact ⟨rfl, gz⟩)
  · rw [hVB] at HVA
    by_cases hx0 : x < 0
    · clear h hn hVB
      refine wp_region_Y (S := fun W' => Blk W' w.heap.size 26 #[.slice r.ra r.racers.length r.rc, .slice r.pa r.pools.length r.pc, .slice r.ta r.protests.length r.tc] ∧ Blk W' (w.heap.size + 1) 75 #[.int .i64 x, .bool up, .int .i64 p, .int .i64 b]) 27 28 rfl (by kernel_rfl) (hSk _ (G.rf _).d) (fun hS => ?_)
      have gd : G W2 W2.drew := (G.rf _).d
      change wpAnyY _ _ opsD1 _ _ 27 28 #[false, false, false, false, false, false, false, false, false, false, false, false, false, false, false, false, false, false, false, false, false, false, false, false, false, false, false, false] _ _
      refine wpAnyY_takeC (v := ?_) [18, 10, 5, 3] rD1_0 rD1o_0 (fun _ _ _ h => h) (Or.inl ⟨by kernel_rfl, ?_⟩) hS ?_
      rotate_left
      · intro w' hSw; have s0 := hSw.1.cell 0; have s1 := hSw.1.cell 1; have s2 := hSw.1.cell 2; have s3 := hSw.1.lt; go_simp; with_reducible rfl
      try simp only [Act.put, List.getElem_toArray, List.getElem_cons_zero, List.getElem_cons_succ, List.setIfInBounds_toArray, List.set_cons_zero, List.set_cons_succ]
      refine wpAnyY_takeC (v := ?_) [18, 10, 5, 3, 2] rD1_1 rD1o_1 (fun _ _ _ h => h) (Or.inl ⟨by kernel_rfl, ?_⟩) hS ?_
      rotate_left
      · intro w' hSw; go_simp; with_reducible rfl
      try simp only [Act.put, List.getElem_toArray, List.getElem_cons_zero, List.getElem_cons_succ, List.setIfInBounds_toArray, List.set_cons_zero, List.set_cons_succ]
      refine wpAnyY_takeC (v := ?_) [18, 10, 5, 3] rD1_2 rD1o_2 (fun _ _ _ h => h) (Or.inl ⟨by kernel_rfl, ?_⟩) hS ?_
      rotate_left
      · intro w' hSw; have s0 := hSw.2.cell 2; have s1 := hSw.2.lt; go_simp; with_reducible rfl
      try simp only [Act.put, List.getElem_toArray, List.getElem_cons_zero, List.getElem_cons_succ, List.setIfInBounds_toArray, List.set_cons_zero, List.set_cons_succ]
      refine wpAnyY_oneSWC rD1_3 rD1o_3 (by kernel_rfl) (fun K3 hK3 => ?_)
      go_simp
      refine (HVA.out _ (g0.t gd)).mono ?_
      rintro e w2 ⟨rfl, hG2⟩
      have ga := gd.t hG2
      refine hK3.out _ _ (hSk _ ga) (fun hS => ?_)
      clear hK3
      try simp only [Act.put, List.getElem_toArray, List.getElem_cons_zero, List.getElem_cons_succ, List.setIfInBounds_toArray, List.set_cons_zero, List.set_cons_succ]
      refine wpAnyY_takeC (v := ?_) [18, 10, 5] rD1_4 rD1o_4 (fun _ _ _ h => h) (Or.inl ⟨by kernel_rfl, ?_⟩) hS ?_
      rotate_left
      · intro w' hSw; go_simp; with_reducible rfl
      try simp only [Act.put, List.getElem_toArray, List.getElem_cons_zero, List.getElem_cons_succ, List.setIfInBounds_toArray, List.set_cons_zero, List.set_cons_succ]
      refine wpAnyY_takeC (v := ?_) [18, 10] rD1_5 rD1o_5 (fun _ _ _ h => h) (Or.inl ⟨by kernel_rfl, ?_⟩) hS ?_
      rotate_left
      · intro w' hSw; go_simp; with_reducible rfl
      try simp only [Act.put, List.getElem_toArray, List.getElem_cons_zero, List.getElem_cons_succ, List.setIfInBounds_toArray, List.set_cons_zero, List.set_cons_succ]
      refine wpAnyY_takeC (v := ?_) [18, 10, 9, 8, 7] rD1_6 rD1o_6 (fun _ _ _ h => h) (Or.inl ⟨by kernel_rfl, ?_⟩) hS ?_
      rotate_left
      · intro w' hSw; go_simp; with_reducible rfl
      try simp only [Act.put, List.getElem_toArray, List.getElem_cons_zero, List.getElem_cons_succ, List.setIfInBounds_toArray, List.set_cons_zero, List.set_cons_succ]
      refine wpAnyY_takeC (v := ?_) [18, 10, 9, 8] rD1_7 rD1o_7 (fun _ _ _ h => h) (Or.inl ⟨by kernel_rfl, ?_⟩) hS ?_
      rotate_left
      · intro w' hSw; have s0 := hSw.2.cell 0; have s1 := hSw.2.lt; go_simp; with_reducible rfl
      try simp only [Act.put, List.getElem_toArray, List.getElem_cons_zero, List.getElem_cons_succ, List.setIfInBounds_toArray, List.set_cons_zero, List.set_cons_succ]
      refine wpAnyY_takeC (v := ?_) [18, 10, 9] rD1_8 rD1o_8 (fun _ _ _ h => h) (Or.inl ⟨by kernel_rfl, ?_⟩) hS ?_
      rotate_left
      · intro w' hSw; go_simp; with_reducible rfl
      try simp only [Act.put, List.getElem_toArray, List.getElem_cons_zero, List.getElem_cons_succ, List.setIfInBounds_toArray, List.set_cons_zero, List.set_cons_succ]
      refine wpAnyY_takeC (v := ?_) [18, 10] rD1_9 rD1o_9 (fun _ _ _ h => h) (Or.inl ⟨by kernel_rfl, ?_⟩) hS ?_
      rotate_left
      · intro w' hSw; go_simp; with_reducible rfl
      try simp only [Act.put, List.getElem_toArray, List.getElem_cons_zero, List.getElem_cons_succ, List.setIfInBounds_toArray, List.set_cons_zero, List.set_cons_succ]
      refine wpAnyY_takeC (v := ?_) [18] rD1_10 rD1o_10 (fun _ _ _ h => h) (Or.inl ⟨by kernel_rfl, ?_⟩) hS ?_
      rotate_left
      · intro w' hSw; go_simp; with_reducible rfl
      try simp only [Act.put, List.getElem_toArray, List.getElem_cons_zero, List.getElem_cons_succ, List.setIfInBounds_toArray, List.set_cons_zero, List.set_cons_succ]
      refine wpAnyY_takeC (v := undef) [18, 17, 16, 12] rD1_11 rD1o_11 (fun _ _ _ h => h) (Or.inr ⟨by kernel_rfl, rfl⟩) hS ?_
      try simp only [Act.put, List.getElem_toArray, List.getElem_cons_zero, List.getElem_cons_succ, List.setIfInBounds_toArray, List.set_cons_zero, List.set_cons_succ]
      refine wpAnyY_takeC (v := undef) [18, 17, 16] rD1_12 rD1o_12 (fun _ _ _ h => h) (Or.inr ⟨by kernel_rfl, rfl⟩) hS ?_
      try simp only [Act.put, List.getElem_toArray, List.getElem_cons_zero, List.getElem_cons_succ, List.setIfInBounds_toArray, List.set_cons_zero, List.set_cons_succ]
      refine wpAnyY_takeC (v := undef) [18, 17, 16, 15, 14] rD1_13 rD1o_13 (fun _ _ _ h => h) (Or.inr ⟨by kernel_rfl, rfl⟩) hS ?_
      try simp only [Act.put, List.getElem_toArray, List.getElem_cons_zero, List.getElem_cons_succ, List.setIfInBounds_toArray, List.set_cons_zero, List.set_cons_succ]
      refine wpAnyY_takeC (v := undef) [18, 17, 16, 15] rD1_14 rD1o_14 (fun _ _ _ h => h) (Or.inr ⟨by kernel_rfl, rfl⟩) hS ?_
      try simp only [Act.put, List.getElem_toArray, List.getElem_cons_zero, List.getElem_cons_succ, List.setIfInBounds_toArray, List.set_cons_zero, List.set_cons_succ]
      refine wpAnyY_takeC (v := undef) [18, 17, 16] rD1_15 rD1o_15 (fun _ _ _ h => h) (Or.inr ⟨by kernel_rfl, rfl⟩) hS ?_
      try simp only [Act.put, List.getElem_toArray, List.getElem_cons_zero, List.getElem_cons_succ, List.setIfInBounds_toArray, List.set_cons_zero, List.set_cons_succ]
      refine wpAnyY_takeC (v := undef) [18, 17] rD1_16 rD1o_16 (fun _ _ _ h => h) (Or.inr ⟨by kernel_rfl, rfl⟩) hS ?_
      try simp only [Act.put, List.getElem_toArray, List.getElem_cons_zero, List.getElem_cons_succ, List.setIfInBounds_toArray, List.set_cons_zero, List.set_cons_succ]
      refine wpAnyY_takeC (v := ?_) [18] rD1_17 rD1o_17 (fun _ _ _ h => h) (Or.inl ⟨by kernel_rfl, ?_⟩) hS ?_
      rotate_left
      · intro w' hSw; go_simp; with_reducible rfl
      try simp only [Act.put, List.getElem_toArray, List.getElem_cons_zero, List.getElem_cons_succ, List.setIfInBounds_toArray, List.set_cons_zero, List.set_cons_succ]
      refine wpAnyY_takeC (v := ?_) [] rD1_18 rD1o_18 (fun _ _ _ h => h) (Or.inl ⟨by kernel_rfl, ?_⟩) hS ?_
      rotate_left
      · intro w' hSw; go_simp; with_reducible rfl
      try simp only [Act.put, List.getElem_toArray, List.getElem_cons_zero, List.getElem_cons_succ, List.setIfInBounds_toArray, List.set_cons_zero, List.set_cons_succ]
      refine wpAnyY_takeC (v := undef) [26, 25, 22] rD1_19 rD1o_19 (fun _ _ _ h => h) (Or.inr ⟨by kernel_rfl, rfl⟩) hS ?_
      try simp only [Act.put, List.getElem_toArray, List.getElem_cons_zero, List.getElem_cons_succ, List.setIfInBounds_toArray, List.set_cons_zero, List.set_cons_succ]
      refine wpAnyY_takeC (v := undef) [26, 25, 22, 21] rD1_20 rD1o_20 (fun _ _ _ h => h) (Or.inr ⟨by kernel_rfl, rfl⟩) hS ?_
      try simp only [Act.put, List.getElem_toArray, List.getElem_cons_zero, List.getElem_cons_succ, List.setIfInBounds_toArray, List.set_cons_zero, List.set_cons_succ]
      refine wpAnyY_takeC (v := undef) [26, 25, 22] rD1_21 rD1o_21 (fun _ _ _ h => h) (Or.inr ⟨by kernel_rfl, rfl⟩) hS ?_
      try simp only [Act.put, List.getElem_toArray, List.getElem_cons_zero, List.getElem_cons_succ, List.setIfInBounds_toArray, List.set_cons_zero, List.set_cons_succ]
      refine wpAnyY_takeC (v := undef) [26, 25, 24] rD1_23 rD1o_23 (fun _ _ _ h => h) (Or.inr ⟨by kernel_rfl, rfl⟩) hS ?_
      try simp only [Act.put, List.getElem_toArray, List.getElem_cons_zero, List.getElem_cons_succ, List.setIfInBounds_toArray, List.set_cons_zero, List.set_cons_succ]
      refine wpAnyY_takeC (v := undef) [26, 25] rD1_24 rD1o_24 (fun _ _ _ h => h) (Or.inr ⟨by kernel_rfl, rfl⟩) hS ?_
      try simp only [Act.put, List.getElem_toArray, List.getElem_cons_zero, List.getElem_cons_succ, List.setIfInBounds_toArray, List.set_cons_zero, List.set_cons_succ]
      refine wpAnyY_oneSUC rD1_22 rD1o_22 (by kernel_rfl) hS ?_
      try simp only [Act.put, List.getElem_toArray, List.getElem_cons_zero, List.getElem_cons_succ, List.setIfInBounds_toArray, List.set_cons_zero, List.set_cons_succ]
      refine wpAnyY_oneSUC rD1_25 rD1o_25 (by kernel_rfl) hS ?_
      try simp only [Act.put, List.getElem_toArray, List.getElem_cons_zero, List.getElem_cons_succ, List.setIfInBounds_toArray, List.set_cons_zero, List.set_cons_succ]
      refine wpAnyY_takeC (v := undef) [] rD1_26 rD1o_26 (fun _ _ _ h => h) (Or.inr ⟨by kernel_rfl, rfl⟩) hS ?_
      try simp only [Act.put, List.getElem_toArray, List.getElem_cons_zero, List.getElem_cons_succ, List.setIfInBounds_toArray, List.set_cons_zero, List.set_cons_succ]
      refine wpAnyY_oneW (i := 27) (by kernel_rfl) rD1o_27 (by kernel_rfl) (by kernel_rfl) (fun K27 hK27 => ?_)
      go_simp
      refine hK27.out _ _ ?_
      clear hK27
      try simp only [Act.put, List.getElem_toArray, List.getElem_cons_zero, List.getElem_cons_succ, List.setIfInBounds_toArray, List.set_cons_zero, List.set_cons_succ]
      refine wpAnyY_done (by kernel_rfl) ?_ _
      clear hS
      go_wp2_with (go_at_call 15; refine (HWK.out _).mono ?_; rintro e w9 ⟨rfl, hG9⟩)
      have gz := (g0.t ga).t hG9
      first | exact ⟨rfl, gz⟩ | (go_ret; exact ⟨rfl, gz⟩)
    by_cases hxn : (r.protests.length : Int) ≤ x
    · clear h hn hVB
      refine wp_region_Y (S := fun W' => Blk W' w.heap.size 26 #[.slice r.ra r.racers.length r.rc, .slice r.pa r.pools.length r.pc, .slice r.ta r.protests.length r.tc] ∧ Blk W' (w.heap.size + 1) 75 #[.int .i64 x, .bool up, .int .i64 p, .int .i64 b]) 27 28 rfl (by kernel_rfl) (hSk _ (G.rf _).d) (fun hS => ?_)
      have gd : G W2 W2.drew := (G.rf _).d
      change wpAnyY _ _ opsD1 _ _ 27 28 #[false, false, false, false, false, false, false, false, false, false, false, false, false, false, false, false, false, false, false, false, false, false, false, false, false, false, false, false] _ _
      refine wpAnyY_takeC (v := ?_) [18, 10, 5, 3] rD1_0 rD1o_0 (fun _ _ _ h => h) (Or.inl ⟨by kernel_rfl, ?_⟩) hS ?_
      rotate_left
      · intro w' hSw; have s0 := hSw.1.cell 0; have s1 := hSw.1.cell 1; have s2 := hSw.1.cell 2; have s3 := hSw.1.lt; go_simp; with_reducible rfl
      try simp only [Act.put, List.getElem_toArray, List.getElem_cons_zero, List.getElem_cons_succ, List.setIfInBounds_toArray, List.set_cons_zero, List.set_cons_succ]
      refine wpAnyY_takeC (v := ?_) [18, 10, 5, 3, 2] rD1_1 rD1o_1 (fun _ _ _ h => h) (Or.inl ⟨by kernel_rfl, ?_⟩) hS ?_
      rotate_left
      · intro w' hSw; go_simp; with_reducible rfl
      try simp only [Act.put, List.getElem_toArray, List.getElem_cons_zero, List.getElem_cons_succ, List.setIfInBounds_toArray, List.set_cons_zero, List.set_cons_succ]
      refine wpAnyY_takeC (v := ?_) [18, 10, 5, 3] rD1_2 rD1o_2 (fun _ _ _ h => h) (Or.inl ⟨by kernel_rfl, ?_⟩) hS ?_
      rotate_left
      · intro w' hSw; have s0 := hSw.2.cell 2; have s1 := hSw.2.lt; go_simp; with_reducible rfl
      try simp only [Act.put, List.getElem_toArray, List.getElem_cons_zero, List.getElem_cons_succ, List.setIfInBounds_toArray, List.set_cons_zero, List.set_cons_succ]
      refine wpAnyY_oneSWC rD1_3 rD1o_3 (by kernel_rfl) (fun K3 hK3 => ?_)
      go_simp
      refine (HVA.out _ (g0.t gd)).mono ?_
      rintro e w2 ⟨rfl, hG2⟩
      have ga := gd.t hG2
      refine hK3.out _ _ (hSk _ ga) (fun hS => ?_)
      clear hK3
      try simp only [Act.put, List.getElem_toArray, List.getElem_cons_zero, List.getElem_cons_succ, List.setIfInBounds_toArray, List.set_cons_zero, List.set_cons_succ]
      refine wpAnyY_takeC (v := ?_) [18, 10, 5] rD1_4 rD1o_4 (fun _ _ _ h => h) (Or.inl ⟨by kernel_rfl, ?_⟩) hS ?_
      rotate_left
      · intro w' hSw; go_simp; with_reducible rfl
      try simp only [Act.put, List.getElem_toArray, List.getElem_cons_zero, List.getElem_cons_succ, List.setIfInBounds_toArray, List.set_cons_zero, List.set_cons_succ]
      refine wpAnyY_takeC (v := ?_) [18, 10] rD1_5 rD1o_5 (fun _ _ _ h => h) (Or.inl ⟨by kernel_rfl, ?_⟩) hS ?_
      rotate_left
      · intro w' hSw; go_simp; with_reducible rfl
      try simp only [Act.put, List.getElem_toArray, List.getElem_cons_zero, List.getElem_cons_succ, List.setIfInBounds_toArray, List.set_cons_zero, List.set_cons_succ]
      refine wpAnyY_takeC (v := ?_) [18, 10, 9, 8, 7] rD1_6 rD1o_6 (fun _ _ _ h => h) (Or.inl ⟨by kernel_rfl, ?_⟩) hS ?_
      rotate_left
      · intro w' hSw; go_simp; with_reducible rfl
      try simp only [Act.put, List.getElem_toArray, List.getElem_cons_zero, List.getElem_cons_succ, List.setIfInBounds_toArray, List.set_cons_zero, List.set_cons_succ]
      refine wpAnyY_takeC (v := ?_) [18, 10, 9, 8] rD1_7 rD1o_7 (fun _ _ _ h => h) (Or.inl ⟨by kernel_rfl, ?_⟩) hS ?_
      rotate_left
      · intro w' hSw; have s0 := hSw.2.cell 0; have s1 := hSw.2.lt; go_simp; with_reducible rfl
      try simp only [Act.put, List.getElem_toArray, List.getElem_cons_zero, List.getElem_cons_succ, List.setIfInBounds_toArray, List.set_cons_zero, List.set_cons_succ]
      refine wpAnyY_takeC (v := ?_) [18, 10, 9] rD1_8 rD1o_8 (fun _ _ _ h => h) (Or.inl ⟨by kernel_rfl, ?_⟩) hS ?_
      rotate_left
      · intro w' hSw; go_simp; with_reducible rfl
      try simp only [Act.put, List.getElem_toArray, List.getElem_cons_zero, List.getElem_cons_succ, List.setIfInBounds_toArray, List.set_cons_zero, List.set_cons_succ]
      refine wpAnyY_takeC (v := ?_) [18, 10] rD1_9 rD1o_9 (fun _ _ _ h => h) (Or.inl ⟨by kernel_rfl, ?_⟩) hS ?_
      rotate_left
      · intro w' hSw; go_simp; with_reducible rfl
      try simp only [Act.put, List.getElem_toArray, List.getElem_cons_zero, List.getElem_cons_succ, List.setIfInBounds_toArray, List.set_cons_zero, List.set_cons_succ]
      refine wpAnyY_takeC (v := ?_) [18] rD1_10 rD1o_10 (fun _ _ _ h => h) (Or.inl ⟨by kernel_rfl, ?_⟩) hS ?_
      rotate_left
      · intro w' hSw; go_simp; with_reducible rfl
      try simp only [Act.put, List.getElem_toArray, List.getElem_cons_zero, List.getElem_cons_succ, List.setIfInBounds_toArray, List.set_cons_zero, List.set_cons_succ]
      refine wpAnyY_takeC (v := ?_) [18, 17, 16, 12] rD1_11 rD1o_11 (fun _ _ _ h => h) (Or.inl ⟨by kernel_rfl, ?_⟩) hS ?_
      rotate_left
      · intro w' hSw; go_simp; with_reducible rfl
      try simp only [Act.put, List.getElem_toArray, List.getElem_cons_zero, List.getElem_cons_succ, List.setIfInBounds_toArray, List.set_cons_zero, List.set_cons_succ]
      refine wpAnyY_takeC (v := ?_) [18, 17, 16] rD1_12 rD1o_12 (fun _ _ _ h => h) (Or.inl ⟨by kernel_rfl, ?_⟩) hS ?_
      rotate_left
      · intro w' hSw; have s0 := hSw.2.cell 0; have s1 := hSw.2.lt; go_simp; with_reducible rfl
      try simp only [Act.put, List.getElem_toArray, List.getElem_cons_zero, List.getElem_cons_succ, List.setIfInBounds_toArray, List.set_cons_zero, List.set_cons_succ]
      refine wpAnyY_takeC (v := ?_) [18, 17, 16, 15, 14] rD1_13 rD1o_13 (fun _ _ _ h => h) (Or.inl ⟨by kernel_rfl, ?_⟩) hS ?_
      rotate_left
      · intro w' hSw; go_simp; with_reducible rfl
      try simp only [Act.put, List.getElem_toArray, List.getElem_cons_zero, List.getElem_cons_succ, List.setIfInBounds_toArray, List.set_cons_zero, List.set_cons_succ]
      refine wpAnyY_takeC (v := ?_) [18, 17, 16, 15] rD1_14 rD1o_14 (fun _ _ _ h => h) (Or.inl ⟨by kernel_rfl, ?_⟩) hS ?_
      rotate_left
      · intro w' hSw; have s0 := hSw.1.cell 2; have s3 := hSw.1.lt; go_simp; with_reducible rfl
      try simp only [Act.put, List.getElem_toArray, List.getElem_cons_zero, List.getElem_cons_succ, List.setIfInBounds_toArray, List.set_cons_zero, List.set_cons_succ]
      refine wpAnyY_takeC (v := ?_) [18, 17, 16] rD1_15 rD1o_15 (fun _ _ _ h => h) (Or.inl ⟨by kernel_rfl, ?_⟩) hS ?_
      rotate_left
      · intro w' hSw; go_simp; with_reducible rfl
      try simp only [Act.put, List.getElem_toArray, List.getElem_cons_zero, List.getElem_cons_succ, List.setIfInBounds_toArray, List.set_cons_zero, List.set_cons_succ]
      refine wpAnyY_takeC (v := ?_) [18, 17] rD1_16 rD1o_16 (fun _ _ _ h => h) (Or.inl ⟨by kernel_rfl, ?_⟩) hS ?_
      rotate_left
      · intro w' hSw; go_simp; with_reducible rfl
      try simp only [Act.put, List.getElem_toArray, List.getElem_cons_zero, List.getElem_cons_succ, List.setIfInBounds_toArray, List.set_cons_zero, List.set_cons_succ]
      refine wpAnyY_takeC (v := ?_) [18] rD1_17 rD1o_17 (fun _ _ _ h => h) (Or.inl ⟨by kernel_rfl, ?_⟩) hS ?_
      rotate_left
      · intro w' hSw; go_simp; with_reducible rfl
      try simp only [Act.put, List.getElem_toArray, List.getElem_cons_zero, List.getElem_cons_succ, List.setIfInBounds_toArray, List.set_cons_zero, List.set_cons_succ]
      refine wpAnyY_takeC (v := ?_) [] rD1_18 rD1o_18 (fun _ _ _ h => h) (Or.inl ⟨by kernel_rfl, ?_⟩) hS ?_
      rotate_left
      · intro w' hSw; go_simp; with_reducible rfl
      try simp only [Act.put, List.getElem_toArray, List.getElem_cons_zero, List.getElem_cons_succ, List.setIfInBounds_toArray, List.set_cons_zero, List.set_cons_succ]
      refine wpAnyY_takeC (v := undef) [26, 25, 22] rD1_19 rD1o_19 (fun _ _ _ h => h) (Or.inr ⟨by kernel_rfl, rfl⟩) hS ?_
      try simp only [Act.put, List.getElem_toArray, List.getElem_cons_zero, List.getElem_cons_succ, List.setIfInBounds_toArray, List.set_cons_zero, List.set_cons_succ]
      refine wpAnyY_takeC (v := undef) [26, 25, 22, 21] rD1_20 rD1o_20 (fun _ _ _ h => h) (Or.inr ⟨by kernel_rfl, rfl⟩) hS ?_
      try simp only [Act.put, List.getElem_toArray, List.getElem_cons_zero, List.getElem_cons_succ, List.setIfInBounds_toArray, List.set_cons_zero, List.set_cons_succ]
      refine wpAnyY_takeC (v := undef) [26, 25, 22] rD1_21 rD1o_21 (fun _ _ _ h => h) (Or.inr ⟨by kernel_rfl, rfl⟩) hS ?_
      try simp only [Act.put, List.getElem_toArray, List.getElem_cons_zero, List.getElem_cons_succ, List.setIfInBounds_toArray, List.set_cons_zero, List.set_cons_succ]
      refine wpAnyY_takeC (v := undef) [26, 25, 24] rD1_23 rD1o_23 (fun _ _ _ h => h) (Or.inr ⟨by kernel_rfl, rfl⟩) hS ?_
      try simp only [Act.put, List.getElem_toArray, List.getElem_cons_zero, List.getElem_cons_succ, List.setIfInBounds_toArray, List.set_cons_zero, List.set_cons_succ]
      refine wpAnyY_takeC (v := undef) [26, 25] rD1_24 rD1o_24 (fun _ _ _ h => h) (Or.inr ⟨by kernel_rfl, rfl⟩) hS ?_
      try simp only [Act.put, List.getElem_toArray, List.getElem_cons_zero, List.getElem_cons_succ, List.setIfInBounds_toArray, List.set_cons_zero, List.set_cons_succ]
      refine wpAnyY_oneSUC rD1_22 rD1o_22 (by kernel_rfl) hS ?_
      try simp only [Act.put, List.getElem_toArray, List.getElem_cons_zero, List.getElem_cons_succ, List.setIfInBounds_toArray, List.set_cons_zero, List.set_cons_succ]
      refine wpAnyY_oneSUC rD1_25 rD1o_25 (by kernel_rfl) hS ?_
      try simp only [Act.put, List.getElem_toArray, List.getElem_cons_zero, List.getElem_cons_succ, List.setIfInBounds_toArray, List.set_cons_zero, List.set_cons_succ]
      refine wpAnyY_takeC (v := undef) [] rD1_26 rD1o_26 (fun _ _ _ h => h) (Or.inr ⟨by kernel_rfl, rfl⟩) hS ?_
      try simp only [Act.put, List.getElem_toArray, List.getElem_cons_zero, List.getElem_cons_succ, List.setIfInBounds_toArray, List.set_cons_zero, List.set_cons_succ]
      refine wpAnyY_oneW (i := 27) (by kernel_rfl) rD1o_27 (by kernel_rfl) (by kernel_rfl) (fun K27 hK27 => ?_)
      go_simp
      refine hK27.out _ _ ?_
      clear hK27
      try simp only [Act.put, List.getElem_toArray, List.getElem_cons_zero, List.getElem_cons_succ, List.setIfInBounds_toArray, List.set_cons_zero, List.set_cons_succ]
      refine wpAnyY_done (by kernel_rfl) ?_ _
      clear hS
      go_wp2_with (go_at_call 15; refine (HWK.out _).mono ?_; rintro e w9 ⟨rfl, hG9⟩)
      have gz := (g0.t ga).t hG9
      first | exact ⟨rfl, gz⟩ | (go_ret; exact ⟨rfl, gz⟩)
    obtain ⟨t, rfl⟩ : ∃ t : Nat, x = (t : Nat) := ⟨x.toNat, by omega⟩
    obtain ⟨hat, hrb, hp0, hpl⟩ := valR_at h hVB
    have hq0 := valR_q hVB
    have h12 := (uniq_of (race_parts hrb)).1
    have HNL : Hid ((namedL r p).length ≤ 1000) := by
      show (namedL r p).length ≤ 1000
      unfold namedL
      rw [List.length_map]
      have := runners_len r p
      omega
    have HNA := Lib.hid (fun (W : World) (hW : G w W) => naQ0 r p (namedL r p).length W (hat.keep hW) rfl)
    rw [hrv] at HNA
    cases hIN : inL (namedL r p) b
    · clear h hn hVB hat hrb hp0 hpl hq0 h12
      refine wp_region_Y (S := fun W' => Blk W' w.heap.size 26 #[.slice r.ra r.racers.length r.rc, .slice r.pa r.pools.length r.pc, .slice r.ta r.protests.length r.tc] ∧ Blk W' (w.heap.size + 1) 75 #[.int .i64 (t : Nat), .bool up, .int .i64 p, .int .i64 b]) 27 28 rfl (by kernel_rfl) (hSk _ (G.rf _).d) (fun hS => ?_)
      have gd : G W2 W2.drew := (G.rf _).d
      change wpAnyY _ _ opsD1 _ _ 27 28 #[false, false, false, false, false, false, false, false, false, false, false, false, false, false, false, false, false, false, false, false, false, false, false, false, false, false, false, false] _ _
      refine wpAnyY_takeC (v := ?_) [18, 10, 5, 3] rD1_0 rD1o_0 (fun _ _ _ h => h) (Or.inl ⟨by kernel_rfl, ?_⟩) hS ?_
      rotate_left
      · intro w' hSw; have s0 := hSw.1.cell 0; have s1 := hSw.1.cell 1; have s2 := hSw.1.cell 2; have s3 := hSw.1.lt; go_simp; with_reducible rfl
      try simp only [Act.put, List.getElem_toArray, List.getElem_cons_zero, List.getElem_cons_succ, List.setIfInBounds_toArray, List.set_cons_zero, List.set_cons_succ]
      refine wpAnyY_takeC (v := ?_) [18, 10, 5, 3, 2] rD1_1 rD1o_1 (fun _ _ _ h => h) (Or.inl ⟨by kernel_rfl, ?_⟩) hS ?_
      rotate_left
      · intro w' hSw; go_simp; with_reducible rfl
      try simp only [Act.put, List.getElem_toArray, List.getElem_cons_zero, List.getElem_cons_succ, List.setIfInBounds_toArray, List.set_cons_zero, List.set_cons_succ]
      refine wpAnyY_takeC (v := ?_) [18, 10, 5, 3] rD1_2 rD1o_2 (fun _ _ _ h => h) (Or.inl ⟨by kernel_rfl, ?_⟩) hS ?_
      rotate_left
      · intro w' hSw; have s0 := hSw.2.cell 2; have s1 := hSw.2.lt; go_simp; with_reducible rfl
      try simp only [Act.put, List.getElem_toArray, List.getElem_cons_zero, List.getElem_cons_succ, List.setIfInBounds_toArray, List.set_cons_zero, List.set_cons_succ]
      refine wpAnyY_oneSWC rD1_3 rD1o_3 (by kernel_rfl) (fun K3 hK3 => ?_)
      go_simp
      refine (HVA.out _ (g0.t gd)).mono ?_
      rintro e w2 ⟨rfl, hG2⟩
      have ga := gd.t hG2
      refine hK3.out _ _ (hSk _ ga) (fun hS => ?_)
      clear hK3
      try simp only [Act.put, List.getElem_toArray, List.getElem_cons_zero, List.getElem_cons_succ, List.setIfInBounds_toArray, List.set_cons_zero, List.set_cons_succ]
      refine wpAnyY_takeC (v := ?_) [18, 10, 5] rD1_4 rD1o_4 (fun _ _ _ h => h) (Or.inl ⟨by kernel_rfl, ?_⟩) hS ?_
      rotate_left
      · intro w' hSw; go_simp; with_reducible rfl
      try simp only [Act.put, List.getElem_toArray, List.getElem_cons_zero, List.getElem_cons_succ, List.setIfInBounds_toArray, List.set_cons_zero, List.set_cons_succ]
      refine wpAnyY_takeC (v := ?_) [18, 10] rD1_5 rD1o_5 (fun _ _ _ h => h) (Or.inl ⟨by kernel_rfl, ?_⟩) hS ?_
      rotate_left
      · intro w' hSw; go_simp; with_reducible rfl
      try simp only [Act.put, List.getElem_toArray, List.getElem_cons_zero, List.getElem_cons_succ, List.setIfInBounds_toArray, List.set_cons_zero, List.set_cons_succ]
      refine wpAnyY_takeC (v := ?_) [18, 10, 9, 8, 7] rD1_6 rD1o_6 (fun _ _ _ h => h) (Or.inl ⟨by kernel_rfl, ?_⟩) hS ?_
      rotate_left
      · intro w' hSw; go_simp; with_reducible rfl
      try simp only [Act.put, List.getElem_toArray, List.getElem_cons_zero, List.getElem_cons_succ, List.setIfInBounds_toArray, List.set_cons_zero, List.set_cons_succ]
      refine wpAnyY_takeC (v := ?_) [18, 10, 9, 8] rD1_7 rD1o_7 (fun _ _ _ h => h) (Or.inl ⟨by kernel_rfl, ?_⟩) hS ?_
      rotate_left
      · intro w' hSw; have s0 := hSw.2.cell 0; have s1 := hSw.2.lt; go_simp; with_reducible rfl
      try simp only [Act.put, List.getElem_toArray, List.getElem_cons_zero, List.getElem_cons_succ, List.setIfInBounds_toArray, List.set_cons_zero, List.set_cons_succ]
      refine wpAnyY_takeC (v := ?_) [18, 10, 9] rD1_8 rD1o_8 (fun _ _ _ h => h) (Or.inl ⟨by kernel_rfl, ?_⟩) hS ?_
      rotate_left
      · intro w' hSw; go_simp; with_reducible rfl
      try simp only [Act.put, List.getElem_toArray, List.getElem_cons_zero, List.getElem_cons_succ, List.setIfInBounds_toArray, List.set_cons_zero, List.set_cons_succ]
      refine wpAnyY_takeC (v := ?_) [18, 10] rD1_9 rD1o_9 (fun _ _ _ h => h) (Or.inl ⟨by kernel_rfl, ?_⟩) hS ?_
      rotate_left
      · intro w' hSw; go_simp; with_reducible rfl
      try simp only [Act.put, List.getElem_toArray, List.getElem_cons_zero, List.getElem_cons_succ, List.setIfInBounds_toArray, List.set_cons_zero, List.set_cons_succ]
      refine wpAnyY_takeC (v := ?_) [18] rD1_10 rD1o_10 (fun _ _ _ h => h) (Or.inl ⟨by kernel_rfl, ?_⟩) hS ?_
      rotate_left
      · intro w' hSw; go_simp; with_reducible rfl
      try simp only [Act.put, List.getElem_toArray, List.getElem_cons_zero, List.getElem_cons_succ, List.setIfInBounds_toArray, List.set_cons_zero, List.set_cons_succ]
      refine wpAnyY_takeC (v := ?_) [18, 17, 16, 12] rD1_11 rD1o_11 (fun _ _ _ h => h) (Or.inl ⟨by kernel_rfl, ?_⟩) hS ?_
      rotate_left
      · intro w' hSw; go_simp; with_reducible rfl
      try simp only [Act.put, List.getElem_toArray, List.getElem_cons_zero, List.getElem_cons_succ, List.setIfInBounds_toArray, List.set_cons_zero, List.set_cons_succ]
      refine wpAnyY_takeC (v := ?_) [18, 17, 16] rD1_12 rD1o_12 (fun _ _ _ h => h) (Or.inl ⟨by kernel_rfl, ?_⟩) hS ?_
      rotate_left
      · intro w' hSw; have s0 := hSw.2.cell 0; have s1 := hSw.2.lt; go_simp; with_reducible rfl
      try simp only [Act.put, List.getElem_toArray, List.getElem_cons_zero, List.getElem_cons_succ, List.setIfInBounds_toArray, List.set_cons_zero, List.set_cons_succ]
      refine wpAnyY_takeC (v := ?_) [18, 17, 16, 15, 14] rD1_13 rD1o_13 (fun _ _ _ h => h) (Or.inl ⟨by kernel_rfl, ?_⟩) hS ?_
      rotate_left
      · intro w' hSw; go_simp; with_reducible rfl
      try simp only [Act.put, List.getElem_toArray, List.getElem_cons_zero, List.getElem_cons_succ, List.setIfInBounds_toArray, List.set_cons_zero, List.set_cons_succ]
      refine wpAnyY_takeC (v := ?_) [18, 17, 16, 15] rD1_14 rD1o_14 (fun _ _ _ h => h) (Or.inl ⟨by kernel_rfl, ?_⟩) hS ?_
      rotate_left
      · intro w' hSw; have s0 := hSw.1.cell 2; have s3 := hSw.1.lt; go_simp; with_reducible rfl
      try simp only [Act.put, List.getElem_toArray, List.getElem_cons_zero, List.getElem_cons_succ, List.setIfInBounds_toArray, List.set_cons_zero, List.set_cons_succ]
      refine wpAnyY_takeC (v := ?_) [18, 17, 16] rD1_15 rD1o_15 (fun _ _ _ h => h) (Or.inl ⟨by kernel_rfl, ?_⟩) hS ?_
      rotate_left
      · intro w' hSw; go_simp; with_reducible rfl
      try simp only [Act.put, List.getElem_toArray, List.getElem_cons_zero, List.getElem_cons_succ, List.setIfInBounds_toArray, List.set_cons_zero, List.set_cons_succ]
      refine wpAnyY_takeC (v := ?_) [18, 17] rD1_16 rD1o_16 (fun _ _ _ h => h) (Or.inl ⟨by kernel_rfl, ?_⟩) hS ?_
      rotate_left
      · intro w' hSw; go_simp; with_reducible rfl
      try simp only [Act.put, List.getElem_toArray, List.getElem_cons_zero, List.getElem_cons_succ, List.setIfInBounds_toArray, List.set_cons_zero, List.set_cons_succ]
      refine wpAnyY_takeC (v := ?_) [18] rD1_17 rD1o_17 (fun _ _ _ h => h) (Or.inl ⟨by kernel_rfl, ?_⟩) hS ?_
      rotate_left
      · intro w' hSw; go_simp; with_reducible rfl
      try simp only [Act.put, List.getElem_toArray, List.getElem_cons_zero, List.getElem_cons_succ, List.setIfInBounds_toArray, List.set_cons_zero, List.set_cons_succ]
      refine wpAnyY_takeC (v := ?_) [] rD1_18 rD1o_18 (fun _ _ _ h => h) (Or.inl ⟨by kernel_rfl, ?_⟩) hS ?_
      rotate_left
      · intro w' hSw; go_simp; with_reducible rfl
      try simp only [Act.put, List.getElem_toArray, List.getElem_cons_zero, List.getElem_cons_succ, List.setIfInBounds_toArray, List.set_cons_zero, List.set_cons_succ]
      refine wpAnyY_takeC (v := ?_) [26, 25, 22] rD1_19 rD1o_19 (fun _ _ _ h => h) (Or.inl ⟨by kernel_rfl, ?_⟩) hS ?_
      rotate_left
      · intro w' hSw; have s0 := hSw.1.cell 0; have s1 := hSw.1.cell 1; have s2 := hSw.1.cell 2; have s3 := hSw.1.lt; go_simp; with_reducible rfl
      try simp only [Act.put, List.getElem_toArray, List.getElem_cons_zero, List.getElem_cons_succ, List.setIfInBounds_toArray, List.set_cons_zero, List.set_cons_succ]
      refine wpAnyY_takeC (v := ?_) [26, 25, 22, 21] rD1_20 rD1o_20 (fun _ _ _ h => h) (Or.inl ⟨by kernel_rfl, ?_⟩) hS ?_
      rotate_left
      · intro w' hSw; go_simp; with_reducible rfl
      try simp only [Act.put, List.getElem_toArray, List.getElem_cons_zero, List.getElem_cons_succ, List.setIfInBounds_toArray, List.set_cons_zero, List.set_cons_succ]
      refine wpAnyY_takeC (v := ?_) [26, 25, 22] rD1_21 rD1o_21 (fun _ _ _ h => h) (Or.inl ⟨by kernel_rfl, ?_⟩) hS ?_
      rotate_left
      · intro w' hSw; have s0 := hSw.2.cell 2; have s1 := hSw.2.lt; go_simp; with_reducible rfl
      try simp only [Act.put, List.getElem_toArray, List.getElem_cons_zero, List.getElem_cons_succ, List.setIfInBounds_toArray, List.set_cons_zero, List.set_cons_succ]
      refine wpAnyY_takeC (v := ?_) [26, 25, 24] rD1_23 rD1o_23 (fun _ _ _ h => h) (Or.inl ⟨by kernel_rfl, ?_⟩) hS ?_
      rotate_left
      · intro w' hSw; go_simp; with_reducible rfl
      try simp only [Act.put, List.getElem_toArray, List.getElem_cons_zero, List.getElem_cons_succ, List.setIfInBounds_toArray, List.set_cons_zero, List.set_cons_succ]
      refine wpAnyY_takeC (v := ?_) [26, 25] rD1_24 rD1o_24 (fun _ _ _ h => h) (Or.inl ⟨by kernel_rfl, ?_⟩) hS ?_
      rotate_left
      · intro w' hSw; have s0 := hSw.2.cell 3; have s1 := hSw.2.lt; go_simp; with_reducible rfl
      try simp only [Act.put, List.getElem_toArray, List.getElem_cons_zero, List.getElem_cons_succ, List.setIfInBounds_toArray, List.set_cons_zero, List.set_cons_succ]
      refine wpAnyY_oneSWC rD1_22 rD1o_22 (by kernel_rfl) (fun K22 hK22 => ?_)
      go_simp
      refine (HNA.out _ (g0.t ga)).mono ?_
      rintro e w3 ⟨hG3, na, nc, rfl, hni⟩
      have gb := ga.t hG3
      have HNI := Lib.hid hni
      clear hni
      refine hK22.out _ _ (hSk _ gb) (fun hS => ?_)
      clear hK22
      try simp only [Act.put, List.getElem_toArray, List.getElem_cons_zero, List.getElem_cons_succ, List.setIfInBounds_toArray, List.set_cons_zero, List.set_cons_succ]
      refine wpAnyY_oneSWC rD1_25 rD1o_25 (by kernel_rfl) (fun K25 hK25 => ?_)
      go_simp
      refine (In_any _ _ _ _ _ HNI.out HNL.out).mono ?_
      rintro e w4 ⟨rfl, hG4⟩
      rw [hIN]
      have gc := gb.t hG4
      refine hK25.out _ _ (hSk _ gc) (fun hS => ?_)
      clear hK25
      try simp only [Act.put, List.getElem_toArray, List.getElem_cons_zero, List.getElem_cons_succ, List.setIfInBounds_toArray, List.set_cons_zero, List.set_cons_succ]
      refine wpAnyY_takeC (v := ?_) [] rD1_26 rD1o_26 (fun _ _ _ h => h) (Or.inl ⟨by kernel_rfl, ?_⟩) hS ?_
      rotate_left
      · intro w' hSw; go_simp; with_reducible rfl
      try simp only [Act.put, List.getElem_toArray, List.getElem_cons_zero, List.getElem_cons_succ, List.setIfInBounds_toArray, List.set_cons_zero, List.set_cons_succ]
      refine wpAnyY_oneW (i := 27) (by kernel_rfl) rD1o_27 (by kernel_rfl) (by kernel_rfl) (fun K27 hK27 => ?_)
      go_simp
      refine hK27.out _ _ ?_
      clear hK27
      try simp only [Act.put, List.getElem_toArray, List.getElem_cons_zero, List.getElem_cons_succ, List.setIfInBounds_toArray, List.set_cons_zero, List.set_cons_succ]
      refine wpAnyY_done (by kernel_rfl) ?_ _
      clear hS
      go_wp2_with (go_at_call 15; refine (HWK.out _).mono ?_; rintro e w9 ⟨rfl, hG9⟩)
      have gz := (g0.t gc).t hG9
      first | exact ⟨rfl, gz⟩ | (go_ret; exact ⟨rfl, gz⟩)
    have HAT := Lib.hid hat
    have HRB := Lib.hid hrb
    have hqb := named_q hq0 hIN
    have HCP := Lib.hid (fun (W : World) (hW : G w W) => (show Calls Tryz.prog 24 #[.agg r.v] W (fun e w' => G W w' ∧ ∃ (N : Nat) (o : Ra), e = .returned (.agg #[.slice o.ra o.racers.length o.rc, .slice o.pa o.pools.length o.pc, .slice o.ta o.protests.length o.tc]) ∧ CpIs2 w' W.heap.size N r o) from Copy_ap r W (hat.keep hW) hn))
    have HC1 := Lib.hid (fun (W : World) (hW : G w W) => canC r p b W (hat.keep hW))
    have HC2 := Lib.hid (fun (W : World) (hW : G w W) => fiC r p W (hat.keep hW) hq0)
    have HQB := Lib.hid hqb
    have hnp := race_np hrb
    have hts := hat.ts
    have htc := hat.ct
    have HN4 := Lib.hid hnp
    rw [hrv] at HCP HC1 HC2
    have HTS := Lib.hid hts
    clear h hn hVB hat hrb hq0 hrv hp0 hpl hts hqb
    refine wp_region_Y (S := fun W' => Blk W' w.heap.size 26 #[.slice r.ra r.racers.length r.rc, .slice r.pa r.pools.length r.pc, .slice r.ta r.protests.length r.tc] ∧ Blk W' (w.heap.size + 1) 75 #[.int .i64 (t : Nat), .bool up, .int .i64 p, .int .i64 b]) 27 28 rfl (by kernel_rfl) (hSk _ (G.rf _).d) (fun hS => ?_)
    have gd : G W2 W2.drew := (G.rf _).d
    change wpAnyY _ _ opsD1 _ _ 27 28 #[false, false, false, false, false, false, false, false, false, false, false, false, false, false, false, false, false, false, false, false, false, false, false, false, false, false, false, false] _ _
    refine wpAnyY_takeC (v := ?_) [18, 10, 5, 3] rD1_0 rD1o_0 (fun _ _ _ h => h) (Or.inl ⟨by kernel_rfl, ?_⟩) hS ?_
    rotate_left
    · intro w' hSw; have s0 := hSw.1.cell 0; have s1 := hSw.1.cell 1; have s2 := hSw.1.cell 2; have s3 := hSw.1.lt; go_simp; with_reducible rfl
    try simp only [Act.put, List.getElem_toArray, List.getElem_cons_zero, List.getElem_cons_succ, List.setIfInBounds_toArray, List.set_cons_zero, List.set_cons_succ]
    refine wpAnyY_takeC (v := ?_) [18, 10, 5, 3, 2] rD1_1 rD1o_1 (fun _ _ _ h => h) (Or.inl ⟨by kernel_rfl, ?_⟩) hS ?_
    rotate_left
    · intro w' hSw; go_simp; with_reducible rfl
    try simp only [Act.put, List.getElem_toArray, List.getElem_cons_zero, List.getElem_cons_succ, List.setIfInBounds_toArray, List.set_cons_zero, List.set_cons_succ]
    refine wpAnyY_takeC (v := ?_) [18, 10, 5, 3] rD1_2 rD1o_2 (fun _ _ _ h => h) (Or.inl ⟨by kernel_rfl, ?_⟩) hS ?_
    rotate_left
    · intro w' hSw; have s0 := hSw.2.cell 2; have s1 := hSw.2.lt; go_simp; with_reducible rfl
    try simp only [Act.put, List.getElem_toArray, List.getElem_cons_zero, List.getElem_cons_succ, List.setIfInBounds_toArray, List.set_cons_zero, List.set_cons_succ]
    refine wpAnyY_oneSWC rD1_3 rD1o_3 (by kernel_rfl) (fun K3 hK3 => ?_)
    go_simp
    refine (HVA.out _ (g0.t gd)).mono ?_
    rintro e w2 ⟨rfl, hG2⟩
    have ga := gd.t hG2
    refine hK3.out _ _ (hSk _ ga) (fun hS => ?_)
    clear hK3
    try simp only [Act.put, List.getElem_toArray, List.getElem_cons_zero, List.getElem_cons_succ, List.setIfInBounds_toArray, List.set_cons_zero, List.set_cons_succ]
    refine wpAnyY_takeC (v := ?_) [18, 10, 5] rD1_4 rD1o_4 (fun _ _ _ h => h) (Or.inl ⟨by kernel_rfl, ?_⟩) hS ?_
    rotate_left
    · intro w' hSw; go_simp; with_reducible rfl
    try simp only [Act.put, List.getElem_toArray, List.getElem_cons_zero, List.getElem_cons_succ, List.setIfInBounds_toArray, List.set_cons_zero, List.set_cons_succ]
    refine wpAnyY_takeC (v := ?_) [18, 10] rD1_5 rD1o_5 (fun _ _ _ h => h) (Or.inl ⟨by kernel_rfl, ?_⟩) hS ?_
    rotate_left
    · intro w' hSw; go_simp; with_reducible rfl
    try simp only [Act.put, List.getElem_toArray, List.getElem_cons_zero, List.getElem_cons_succ, List.setIfInBounds_toArray, List.set_cons_zero, List.set_cons_succ]
    refine wpAnyY_takeC (v := ?_) [18, 10, 9, 8, 7] rD1_6 rD1o_6 (fun _ _ _ h => h) (Or.inl ⟨by kernel_rfl, ?_⟩) hS ?_
    rotate_left
    · intro w' hSw; go_simp; with_reducible rfl
    try simp only [Act.put, List.getElem_toArray, List.getElem_cons_zero, List.getElem_cons_succ, List.setIfInBounds_toArray, List.set_cons_zero, List.set_cons_succ]
    refine wpAnyY_takeC (v := ?_) [18, 10, 9, 8] rD1_7 rD1o_7 (fun _ _ _ h => h) (Or.inl ⟨by kernel_rfl, ?_⟩) hS ?_
    rotate_left
    · intro w' hSw; have s0 := hSw.2.cell 0; have s1 := hSw.2.lt; go_simp; with_reducible rfl
    try simp only [Act.put, List.getElem_toArray, List.getElem_cons_zero, List.getElem_cons_succ, List.setIfInBounds_toArray, List.set_cons_zero, List.set_cons_succ]
    refine wpAnyY_takeC (v := ?_) [18, 10, 9] rD1_8 rD1o_8 (fun _ _ _ h => h) (Or.inl ⟨by kernel_rfl, ?_⟩) hS ?_
    rotate_left
    · intro w' hSw; go_simp; with_reducible rfl
    try simp only [Act.put, List.getElem_toArray, List.getElem_cons_zero, List.getElem_cons_succ, List.setIfInBounds_toArray, List.set_cons_zero, List.set_cons_succ]
    refine wpAnyY_takeC (v := ?_) [18, 10] rD1_9 rD1o_9 (fun _ _ _ h => h) (Or.inl ⟨by kernel_rfl, ?_⟩) hS ?_
    rotate_left
    · intro w' hSw; go_simp; with_reducible rfl
    try simp only [Act.put, List.getElem_toArray, List.getElem_cons_zero, List.getElem_cons_succ, List.setIfInBounds_toArray, List.set_cons_zero, List.set_cons_succ]
    refine wpAnyY_takeC (v := ?_) [18] rD1_10 rD1o_10 (fun _ _ _ h => h) (Or.inl ⟨by kernel_rfl, ?_⟩) hS ?_
    rotate_left
    · intro w' hSw; go_simp; with_reducible rfl
    try simp only [Act.put, List.getElem_toArray, List.getElem_cons_zero, List.getElem_cons_succ, List.setIfInBounds_toArray, List.set_cons_zero, List.set_cons_succ]
    refine wpAnyY_takeC (v := ?_) [18, 17, 16, 12] rD1_11 rD1o_11 (fun _ _ _ h => h) (Or.inl ⟨by kernel_rfl, ?_⟩) hS ?_
    rotate_left
    · intro w' hSw; go_simp; with_reducible rfl
    try simp only [Act.put, List.getElem_toArray, List.getElem_cons_zero, List.getElem_cons_succ, List.setIfInBounds_toArray, List.set_cons_zero, List.set_cons_succ]
    refine wpAnyY_takeC (v := ?_) [18, 17, 16] rD1_12 rD1o_12 (fun _ _ _ h => h) (Or.inl ⟨by kernel_rfl, ?_⟩) hS ?_
    rotate_left
    · intro w' hSw; have s0 := hSw.2.cell 0; have s1 := hSw.2.lt; go_simp; with_reducible rfl
    try simp only [Act.put, List.getElem_toArray, List.getElem_cons_zero, List.getElem_cons_succ, List.setIfInBounds_toArray, List.set_cons_zero, List.set_cons_succ]
    refine wpAnyY_takeC (v := ?_) [18, 17, 16, 15, 14] rD1_13 rD1o_13 (fun _ _ _ h => h) (Or.inl ⟨by kernel_rfl, ?_⟩) hS ?_
    rotate_left
    · intro w' hSw; go_simp; with_reducible rfl
    try simp only [Act.put, List.getElem_toArray, List.getElem_cons_zero, List.getElem_cons_succ, List.setIfInBounds_toArray, List.set_cons_zero, List.set_cons_succ]
    refine wpAnyY_takeC (v := ?_) [18, 17, 16, 15] rD1_14 rD1o_14 (fun _ _ _ h => h) (Or.inl ⟨by kernel_rfl, ?_⟩) hS ?_
    rotate_left
    · intro w' hSw; have s0 := hSw.1.cell 2; have s3 := hSw.1.lt; go_simp; with_reducible rfl
    try simp only [Act.put, List.getElem_toArray, List.getElem_cons_zero, List.getElem_cons_succ, List.setIfInBounds_toArray, List.set_cons_zero, List.set_cons_succ]
    refine wpAnyY_takeC (v := ?_) [18, 17, 16] rD1_15 rD1o_15 (fun _ _ _ h => h) (Or.inl ⟨by kernel_rfl, ?_⟩) hS ?_
    rotate_left
    · intro w' hSw; go_simp; with_reducible rfl
    try simp only [Act.put, List.getElem_toArray, List.getElem_cons_zero, List.getElem_cons_succ, List.setIfInBounds_toArray, List.set_cons_zero, List.set_cons_succ]
    refine wpAnyY_takeC (v := ?_) [18, 17] rD1_16 rD1o_16 (fun _ _ _ h => h) (Or.inl ⟨by kernel_rfl, ?_⟩) hS ?_
    rotate_left
    · intro w' hSw; go_simp; with_reducible rfl
    try simp only [Act.put, List.getElem_toArray, List.getElem_cons_zero, List.getElem_cons_succ, List.setIfInBounds_toArray, List.set_cons_zero, List.set_cons_succ]
    refine wpAnyY_takeC (v := ?_) [18] rD1_17 rD1o_17 (fun _ _ _ h => h) (Or.inl ⟨by kernel_rfl, ?_⟩) hS ?_
    rotate_left
    · intro w' hSw; go_simp; with_reducible rfl
    try simp only [Act.put, List.getElem_toArray, List.getElem_cons_zero, List.getElem_cons_succ, List.setIfInBounds_toArray, List.set_cons_zero, List.set_cons_succ]
    refine wpAnyY_takeC (v := ?_) [] rD1_18 rD1o_18 (fun _ _ _ h => h) (Or.inl ⟨by kernel_rfl, ?_⟩) hS ?_
    rotate_left
    · intro w' hSw; go_simp; with_reducible rfl
    try simp only [Act.put, List.getElem_toArray, List.getElem_cons_zero, List.getElem_cons_succ, List.setIfInBounds_toArray, List.set_cons_zero, List.set_cons_succ]
    refine wpAnyY_takeC (v := ?_) [26, 25, 22] rD1_19 rD1o_19 (fun _ _ _ h => h) (Or.inl ⟨by kernel_rfl, ?_⟩) hS ?_
    rotate_left
    · intro w' hSw; have s0 := hSw.1.cell 0; have s1 := hSw.1.cell 1; have s2 := hSw.1.cell 2; have s3 := hSw.1.lt; go_simp; with_reducible rfl
    try simp only [Act.put, List.getElem_toArray, List.getElem_cons_zero, List.getElem_cons_succ, List.setIfInBounds_toArray, List.set_cons_zero, List.set_cons_succ]
    refine wpAnyY_takeC (v := ?_) [26, 25, 22, 21] rD1_20 rD1o_20 (fun _ _ _ h => h) (Or.inl ⟨by kernel_rfl, ?_⟩) hS ?_
    rotate_left
    · intro w' hSw; go_simp; with_reducible rfl
    try simp only [Act.put, List.getElem_toArray, List.getElem_cons_zero, List.getElem_cons_succ, List.setIfInBounds_toArray, List.set_cons_zero, List.set_cons_succ]
    refine wpAnyY_takeC (v := ?_) [26, 25, 22] rD1_21 rD1o_21 (fun _ _ _ h => h) (Or.inl ⟨by kernel_rfl, ?_⟩) hS ?_
    rotate_left
    · intro w' hSw; have s0 := hSw.2.cell 2; have s1 := hSw.2.lt; go_simp; with_reducible rfl
    try simp only [Act.put, List.getElem_toArray, List.getElem_cons_zero, List.getElem_cons_succ, List.setIfInBounds_toArray, List.set_cons_zero, List.set_cons_succ]
    refine wpAnyY_takeC (v := ?_) [26, 25, 24] rD1_23 rD1o_23 (fun _ _ _ h => h) (Or.inl ⟨by kernel_rfl, ?_⟩) hS ?_
    rotate_left
    · intro w' hSw; go_simp; with_reducible rfl
    try simp only [Act.put, List.getElem_toArray, List.getElem_cons_zero, List.getElem_cons_succ, List.setIfInBounds_toArray, List.set_cons_zero, List.set_cons_succ]
    refine wpAnyY_takeC (v := ?_) [26, 25] rD1_24 rD1o_24 (fun _ _ _ h => h) (Or.inl ⟨by kernel_rfl, ?_⟩) hS ?_
    rotate_left
    · intro w' hSw; have s0 := hSw.2.cell 3; have s1 := hSw.2.lt; go_simp; with_reducible rfl
    try simp only [Act.put, List.getElem_toArray, List.getElem_cons_zero, List.getElem_cons_succ, List.setIfInBounds_toArray, List.set_cons_zero, List.set_cons_succ]
    refine wpAnyY_oneSWC rD1_22 rD1o_22 (by kernel_rfl) (fun K22 hK22 => ?_)
    go_simp
    refine (HNA.out _ (g0.t ga)).mono ?_
    rintro e w3 ⟨hG3, na, nc, rfl, hni⟩
    have gb := ga.t hG3
    have HNI := Lib.hid hni
    clear hni
    refine hK22.out _ _ (hSk _ gb) (fun hS => ?_)
    clear hK22
    try simp only [Act.put, List.getElem_toArray, List.getElem_cons_zero, List.getElem_cons_succ, List.setIfInBounds_toArray, List.set_cons_zero, List.set_cons_succ]
    refine wpAnyY_oneSWC rD1_25 rD1o_25 (by kernel_rfl) (fun K25 hK25 => ?_)
    go_simp
    refine (In_any _ _ _ _ _ HNI.out HNL.out).mono ?_
    rintro e w4 ⟨rfl, hG4⟩
    rw [hIN]
    have gc := gb.t hG4
    refine hK25.out _ _ (hSk _ gc) (fun hS => ?_)
    clear hK25
    try simp only [Act.put, List.getElem_toArray, List.getElem_cons_zero, List.getElem_cons_succ, List.setIfInBounds_toArray, List.set_cons_zero, List.set_cons_succ]
    refine wpAnyY_takeC (v := ?_) [] rD1_26 rD1o_26 (fun _ _ _ h => h) (Or.inl ⟨by kernel_rfl, ?_⟩) hS ?_
    rotate_left
    · intro w' hSw; go_simp; with_reducible rfl
    try simp only [Act.put, List.getElem_toArray, List.getElem_cons_zero, List.getElem_cons_succ, List.setIfInBounds_toArray, List.set_cons_zero, List.set_cons_succ]
    refine wpAnyY_oneW (i := 27) (by kernel_rfl) rD1o_27 (by kernel_rfl) (by kernel_rfl) (fun K27 hK27 => ?_)
    go_simp
    refine hK27.out _ _ ?_
    clear hK27
    try simp only [Act.put, List.getElem_toArray, List.getElem_cons_zero, List.getElem_cons_succ, List.setIfInBounds_toArray, List.set_cons_zero, List.set_cons_succ]
    refine wpAnyY_done (by kernel_rfl) ?_ _
    clear hS
    have hBz : w.heap.size + 1 < w4.heap.size := (b1.keep gc).lt
    have g4 := g0.t gc
    have b04 := b0.keep gc
    have b14 := b1.keep gc
    clear hG2 hG3 hG4 ga gb gd hSk HNI b0 b1 g0 HVA HNA HNL hIN gc
    have m0 := b04.cell 0
    have m1 := b04.cell 1
    have m2 := b04.cell 2
    have l0 := b04.lt
    go_upto_region 4 with (go_at_call 24; refine (HCP.out _ g4).mono ?_; rintro e w5 ⟨hG5, N, o, rfl, hCP⟩)
    clear m0 m1 m2 l0
    have hlo : o.racers.length = r.racers.length := by
      have e := congrArg List.length hCP.er
      simpa using e
    have g5 := g4.t hG5
    have b05 := (b04.keep hG5).alloc (.cells #[.slice o.ra o.racers.length o.rc, .slice o.pa o.pools.length o.pc, .slice o.ta o.protests.length o.tc] 26)
    have b15 := (b14.keep hG5).alloc (.cells #[.slice o.ra o.racers.length o.rc, .slice o.pa o.pools.length o.pc, .slice o.ta o.protests.length o.tc] 26)
    have bK : Blk (w5.alloc (.cells #[.slice o.ra o.racers.length o.rc, .slice o.pa o.pools.length o.pc, .slice o.ta o.protests.length o.tc] 26)) w5.heap.size 26 #[.slice o.ra o.racers.length o.rc, .slice o.pa o.pools.length o.pc, .slice o.ta o.protests.length o.tc] := Blk.new _ _ _
    have g6 := g5.a (.cells #[.slice o.ra o.racers.length o.rc, .slice o.pa o.pools.length o.pc, .slice o.ta o.protests.length o.tc] 26)
    have ga5 : G w5 (w5.alloc (.cells #[.slice o.ra o.racers.length o.rc, .slice o.pa o.pools.length o.pc, .slice o.ta o.protests.length o.tc] 26)) := (G.rf _).a _
    have hsz5 : w4.heap.size ≤ w5.heap.size := hG5.size
    have HCR := Lib.hid (own_G hCP.rr ga5)
    have HRP := Lib.hid (fun y hy => own_G (hCP.rp y hy) ga5)
    have HPR := Lib.hid (own_G hCP.pr ga5)
    have HPT := Lib.hid (fun y hy => own_G (hCP.pt y hy) ga5)
    have HTR := Lib.hid (own_G hCP.tr ga5)
    have HTL := Lib.hid hCP.tl
    have HBN := Lib.hid hCP.bn
    have HER := Lib.hid hCP.er
    have HEP := Lib.hid hCP.ep
    have het := hCP.et
    clear hCP hG5 b04 b14 g4 g5 ga5 HCP
    obtain ⟨K, hK⟩ : ∃ K, K = w5.heap.size := ⟨_, rfl⟩
    change Code.wp _ _ _ _ (w5.alloc (.cells #[.slice o.ra o.racers.length o.rc, .slice o.pa o.pools.length o.pc, .slice o.ta o.protests.length o.tc] 26))
    rw [← hK] at bK hsz5 ⊢
    clear hK
    obtain ⟨B, hB⟩ : ∃ B, B = w4.heap.size := ⟨_, rfl⟩
    rw [← hB] at HTR HBN hBz hsz5
    clear hB
    generalize w5.alloc (.cells #[.slice o.ra o.racers.length o.rc, .slice o.pa o.pools.length o.pc, .slice o.ta o.protests.length o.tc] 26) = W4 at *
    have HB0 := Lib.hid b05
    have HB1 := Lib.hid b15
    have HBK := Lib.hid bK
    have htN : t < r.protests.length := by omega
    have hto : o.protests.length = r.protests.length := by rw [het]
    rcases HTS.out.below g6 with hx | ⟨tb, to, hte, htb, htcell⟩
    · rw [hx] at htN; simp at htN
    have hst := htcell t htN
    obtain ⟨sk, hsk⟩ : ∃ sk, sk = r.protests.getD t 0 := ⟨_, rfl⟩
    rw [← hsk] at hst
    have m2 := b05.cell 2
    rw [hte] at m2
    have m2' : W4.cell? ⟨w.heap.size, 2, none⟩ = some (.slice (some ⟨tb, to, none⟩) r.protests.length r.tc) := m2
    have l0 := b05.lt
    have n0 := b15.cell 0
    have ln := b15.lt
    have HSK := Lib.hid hsk
    clear m2 htcell hte b05 b15 bK hsk
    go_upto_region 5 with fail
    clear m2' l0 n0 ln hst
    obtain ⟨gp, hgp, hgB⟩ : ∃ gp, o.ta = some ⟨gp, 0, none⟩ ∧ B ≤ gp := by
      rcases HTR.out.2 with ⟨_, h0⟩ | ⟨g', cap, cur, he, hb, _⟩
      · omega
      · injection he with e1 e2 e3
        exact ⟨g', e1, hb⟩
    have hgN : gp < N := HTL.out gp (by rw [hgp]; rfl)
    have gD : G W4 W4.drew := (G.rf _).d
    have bKD := HBK.out.keep gD
    have b1D := HB1.out.keep gD
    have b0D := HB0.out.keep gD
    have hrow := own_G HTR.out gD
    have hoc : o.protests.length ≤ o.tc := own_cap hrow
    rw [hgp] at hrow
    have hrow2 := own_pre hrow (x := t) (by omega)
    rw [← hgp] at hrow2
    obtain ⟨ad, had, hadc⟩ := dec_src (HTS.out.below (g6.t gD)) htN htc
    have hs4 : ∀ W, (Instr.slice 24 (.slice o.ta o.protests.length o.tc) none (some (.int .i64 (t : Nat))) none).run Tryz.prog W = .ok (.slice o.ta t o.tc) W := fun W => slHi2 _ _ _ _ (by omega) hoc (.inr ⟨gp, 0, hgp⟩) W
    have hs10 : ∀ W, (Instr.slice 24 (.slice r.ta r.protests.length r.tc) (some (.int .i64 ((t : Int) + 1))) none none).run Tryz.prog W = .ok (.slice (some ad) (r.protests.length - (t + 1)) (r.tc - (t + 1))) W := fun W => by
      have := slLo2 r.ta r.protests.length r.tc (t + 1) (by omega) htc (pa_of (HTS.out.below (g6.t gD)) (by omega)) W
      rw [had, show ((t + 1 : Nat) : Int) = (t : Int) + 1 by omega] at this
      exact this
    have hs4a : ∀ W, (Instr.sliceAt 24 (.slice o.ta o.protests.length o.tc) none (some (.int .i64 (t : Nat))) none).run Tryz.prog W = .ok (.slice o.ta t o.tc) W := fun W => slHi _ _ _ _ (by omega) hoc (.inr ⟨gp, 0, hgp⟩) W
    have hs10a : ∀ W, (Instr.sliceAt 24 (.slice r.ta r.protests.length r.tc) (some (.int .i64 ((t : Int) + 1))) none none).run Tryz.prog W = .ok (.slice (some ad) (r.protests.length - (t + 1)) (r.tc - (t + 1))) W := fun W => by
      have := slLo r.ta r.protests.length r.tc (t + 1) (by omega) htc (pa_of (HTS.out.below (g6.t gD)) (by omega)) W
      rw [had, show ((t + 1 : Nat) : Int) = (t : Int) + 1 by omega] at this
      exact this
    have hwt : IntKind.i64.wrap ((t : Int) + 1) = (t : Int) + 1 := IntWalk.i64_in _ (by omega)
    have HROW2 := Lib.hid hrow2
    have HADC := Lib.hid hadc
    have HBKD := Lib.hid bKD
    have HB1D := Lib.hid b1D
    have HB0D := Lib.hid b0D
    have HGP := Lib.hid hgp
    have HET := Lib.hid het
    have HTO := Lib.hid hto
    have htp : t < o.protests.length := by omega
    have HLO := Lib.hid hlo
    clear hrow hrow2 hadc had bKD b1D b0D hgp het hto hlo
    obtain ⟨i0, hi0, hz0, hz1, hz2⟩ := info_parts info3
    have HI0 := Lib.hid hi0
    have HZ0 := Lib.hid (And.intro hz0 (And.intro hz1 hz2))
    clear hi0 hz0 hz1 hz2
    refine wp_region_Y (S := fun W' => Blk W' K 26 #[.slice o.ra o.racers.length o.rc, .slice o.pa o.pools.length o.pc, .slice o.ta o.protests.length o.tc] ∧ Blk W' (w.heap.size + 1) 75 #[.int .i64 (t : Nat), .bool up, .int .i64 p, .int .i64 b] ∧ Blk W' w.heap.size 26 #[.slice r.ra r.racers.length r.rc, .slice r.pa r.pools.length r.pc, .slice r.ta r.protests.length r.tc]) 13 14 rfl (by kernel_rfl) ⟨HBKD.out, HB1D.out, HB0D.out⟩ (fun hS => ?_)
    refine wpAnyY_take (i := 0) (v := ?_) rfl (by kernel_rfl) (by kernel_rfl) (by kernel_rfl) (by kernel_rfl) (fun _ _ _ h => h) (Or.inl ⟨by kernel_rfl, ?_⟩) hS ?_
    rotate_left
    · intro w' hSw; go_simp; with_reducible rfl
    try simp only [Act.put, List.getElem_toArray, List.getElem_cons_zero, List.getElem_cons_succ, List.setIfInBounds_toArray, List.set_cons_zero, List.set_cons_succ]
    refine wpAnyY_take (i := 1) (v := ?_) rfl (by kernel_rfl) (by kernel_rfl) (by kernel_rfl) (by kernel_rfl) (fun _ _ _ h => h) (Or.inl ⟨by kernel_rfl, ?_⟩) hS ?_
    rotate_left
    · intro w' hSw; have s0 := hSw.1.cell 2; have s1 := hSw.1.lt; go_simp; with_reducible rfl
    try simp only [Act.put, List.getElem_toArray, List.getElem_cons_zero, List.getElem_cons_succ, List.setIfInBounds_toArray, List.set_cons_zero, List.set_cons_succ]
    refine wpAnyY_take (i := 2) (v := ?_) rfl (by kernel_rfl) (by kernel_rfl) (by kernel_rfl) (by kernel_rfl) (fun _ _ _ h => h) (Or.inl ⟨by kernel_rfl, ?_⟩) hS ?_
    rotate_left
    · intro w' hSw; go_simp; with_reducible rfl
    try simp only [Act.put, List.getElem_toArray, List.getElem_cons_zero, List.getElem_cons_succ, List.setIfInBounds_toArray, List.set_cons_zero, List.set_cons_succ]
    refine wpAnyY_take (i := 3) (v := ?_) rfl (by kernel_rfl) (by kernel_rfl) (by kernel_rfl) (by kernel_rfl) (fun _ _ _ h => h) (Or.inl ⟨by kernel_rfl, ?_⟩) hS ?_
    rotate_left
    · intro w' hSw; have s0 := hSw.2.1.cell 0; have s1 := hSw.2.1.lt; go_simp; with_reducible rfl
    try simp only [Act.put, List.getElem_toArray, List.getElem_cons_zero, List.getElem_cons_succ, List.setIfInBounds_toArray, List.set_cons_zero, List.set_cons_succ]
    refine wpAnyY_take (i := 5) (v := ?_) rfl (by kernel_rfl) (by kernel_rfl) (by kernel_rfl) (by kernel_rfl) (fun _ _ _ h => h) (Or.inl ⟨by kernel_rfl, ?_⟩) hS ?_
    rotate_left
    · intro w' hSw; go_simp; with_reducible rfl
    try simp only [Act.put, List.getElem_toArray, List.getElem_cons_zero, List.getElem_cons_succ, List.setIfInBounds_toArray, List.set_cons_zero, List.set_cons_succ]
    refine wpAnyY_take (i := 6) (v := ?_) rfl (by kernel_rfl) (by kernel_rfl) (by kernel_rfl) (by kernel_rfl) (fun _ _ _ h => h) (Or.inl ⟨by kernel_rfl, ?_⟩) hS ?_
    rotate_left
    · intro w' hSw; have s0 := hSw.2.2.cell 2; have s1 := hSw.2.2.lt; go_simp; with_reducible rfl
    try simp only [Act.put, List.getElem_toArray, List.getElem_cons_zero, List.getElem_cons_succ, List.setIfInBounds_toArray, List.set_cons_zero, List.set_cons_succ]
    refine wpAnyY_take (i := 7) (v := ?_) rfl (by kernel_rfl) (by kernel_rfl) (by kernel_rfl) (by kernel_rfl) (fun _ _ _ h => h) (Or.inl ⟨by kernel_rfl, ?_⟩) hS ?_
    rotate_left
    · intro w' hSw; go_simp; with_reducible rfl
    try simp only [Act.put, List.getElem_toArray, List.getElem_cons_zero, List.getElem_cons_succ, List.setIfInBounds_toArray, List.set_cons_zero, List.set_cons_succ]
    refine wpAnyY_take (i := 8) (v := ?_) rfl (by kernel_rfl) (by kernel_rfl) (by kernel_rfl) (by kernel_rfl) (fun _ _ _ h => h) (Or.inl ⟨by kernel_rfl, ?_⟩) hS ?_
    rotate_left
    · intro w' hSw; have s0 := hSw.2.1.cell 0; have s1 := hSw.2.1.lt; go_simp; with_reducible rfl
    try simp only [Act.put, List.getElem_toArray, List.getElem_cons_zero, List.getElem_cons_succ, List.setIfInBounds_toArray, List.set_cons_zero, List.set_cons_succ]
    refine wpAnyY_take (i := 9) (v := ?_) rfl (by kernel_rfl) (by kernel_rfl) (by kernel_rfl) (by kernel_rfl) (fun _ _ _ h => h) (Or.inl ⟨by kernel_rfl, ?_⟩) hS ?_
    rotate_left
    · intro w' hSw; go_simp; with_reducible rfl
    try simp only [Act.put, List.getElem_toArray, List.getElem_cons_zero, List.getElem_cons_succ, List.setIfInBounds_toArray, List.set_cons_zero, List.set_cons_succ]
    have hc4 : t ≤ o.tc := by omega
    have hc4i : (t : Int) ≤ o.tc := by omega
    have hc4p : (t : Int) ≤ o.protests.length := by omega
    refine wpAnyY_twoJ (i := 4) (j := 10) (oi := opD5_4) (oj := opD5_10) (vi := .slice o.ta t o.tc) (vj := .slice (some ad) (r.protests.length - (t + 1)) (r.tc - (t + 1))) (by kernel_rfl) (by kernel_rfl) (by kernel_rfl) rfl rfl rfl rfl rfl rfl (fun K1 hK1 => ?y1) (fun K1 hK1 => ?y2) (fun K1 hK1 => ?y3) (fun K1 hK1 => ?y4) hS ?_
    case y1 => unfold opD5_4 at hK1 ⊢; go_simp; exact hK1
    case y2 => unfold opD5_4 opD5_10 at hK1 ⊢; go_simp; exact hK1
    case y3 => unfold opD5_10 at hK1 ⊢; go_simp; exact hK1
    case y4 => unfold opD5_4 opD5_10 at hK1 ⊢; go_simp; exact hK1
    unfold opD5_4 opD5_10
    try simp only [Act.put, List.getElem_toArray, List.getElem_cons_zero, List.getElem_cons_succ, List.setIfInBounds_toArray, List.set_cons_zero, List.set_cons_succ]
    refine wpAnyY_oneSW (i := 11) (by kernel_rfl) rfl (by kernel_rfl) (fun K11 hK11 => ?_)
    refine wp_append_own _ _ _ 24 rfl B 3 i0 (.int .i64 0) 1 8 Tryz.underlying24 HI0.out HZ0.out.1 HZ0.out.2.1 HZ0.out.2.2 rfl (by decide) _ t (iv (o.protests.take t)) rfl HROW2.out ad (r.protests.length - (t + 1)) (r.tc - (t + 1)) (iv (r.protests.drop (t + 1))) rfl (by rw [iv_len, List.length_drop]; omega) HADC.out (iv_one _) (by unfold maxLen; omega) (by omega) (by have := gD.size; have := HBK.out.lt; omega) ?_
    intro v9 w9 hown9 hg9 hnil9
    obtain ⟨va9, vc9, rfl⟩ := own_slice hown9
    have bK9 := HBKD.out.grown hg9 (own_ne HROW2.out HBKD.out (by decide))
    have b19 := HB1D.out.grown hg9 (own_ne HROW2.out HB1D.out (by decide))
    have b09 := HB0D.out.grown hg9 (own_ne HROW2.out HB0D.out (by decide))
    refine hK11.out _ _ ⟨bK9, b19, b09⟩ (fun hS => ?_)
    clear hK11
    try simp only [Act.put, List.getElem_toArray, List.getElem_cons_zero, List.getElem_cons_succ, List.setIfInBounds_toArray, List.set_cons_zero, List.set_cons_succ]
    refine wpAnyY_take (i := 12) (v := ?_) rfl (by kernel_rfl) (by kernel_rfl) (by kernel_rfl) (by kernel_rfl) (fun _ _ _ h => h) (Or.inl ⟨by kernel_rfl, ?_⟩) hS ?_
    rotate_left
    · intro w' hSw; go_simp; with_reducible rfl
    try simp only [Act.put, List.getElem_toArray, List.getElem_cons_zero, List.getElem_cons_succ, List.setIfInBounds_toArray, List.set_cons_zero, List.set_cons_succ]
    have u0 := bK9.cell 2
    have z0 := bK9.frozen 2
    have lz := bK9.lt
    refine wpAnyY_oneW (i := 13) (by kernel_rfl) rfl (by kernel_rfl) (by kernel_rfl) (fun K13 hK13 => ?_)
    go_simp
    refine hK13.out _ _ ?_
    clear hK13
    try simp only [Act.put, List.getElem_toArray, List.getElem_cons_zero, List.getElem_cons_succ, List.setIfInBounds_toArray, List.set_cons_zero, List.set_cons_succ]
    refine wpAnyY_done (by kernel_rfl) ?_ _
    clear hS u0 z0 lz hs4 hs10 hs4a hs10a hwt
    have hrg : ∀ g, (Value.slice o.ta t o.tc).ownBlock = some g → g = gp := fun g e => by
      rw [HGP.out] at e
      injection e with e
      exact e.symm
    have hFR : Fr (fun i => i = gp ∨ i = K) W4 (w9.setCell ⟨K, 2, none⟩ (.slice va9 (t + (r.protests.length - (t + 1))) vc9)) := ((G.fr (R := fun i => i = gp ∨ i = K) gD).grown hg9 (fun g e => .inl (.inl (hrg g e)))).s (p := ⟨K, 2, none⟩) (.inl (.inr rfl)) _
    obtain ⟨qs, hqs⟩ : ∃ qs, qs = r.protests.take t ++ r.protests.drop (t + 1) := ⟨_, rfl⟩
    have hto := HTO.out
    have hql : t + (r.protests.length - (t + 1)) = qs.length := by rw [hqs, List.length_append, List.length_take, List.length_drop]; omega
    have hQR9 : w9.ownsRow B 3 1 (.slice va9 qs.length vc9) qs.length (iv qs) := by
      rw [← hql, hqs, iv_app, ← HET.out]
      rw [HET.out] at hown9 ⊢
      exact hown9
    rw [hql] at hFR ⊢
    have hQR := hQR9.kept (grownBy_set w9 ⟨K, 2, none⟩ (.slice va9 qs.length vc9)) (.inr (own_ne hQR9 bK9 (by decide)).symm)
    have bK5 := bK9.set_ 2 (.slice va9 qs.length vc9)
    simp only [List.setIfInBounds_toArray, List.set_cons_zero, List.set_cons_succ] at bK5
    have hgK : gp ≠ K := fun e => own_ne HROW2.out HBKD.out (by decide) (by rw [HGP.out, ← e]; rfl)
    obtain ⟨W5, hW5⟩ : ∃ W5, W5 = w9.setCell ⟨K, 2, none⟩ (.slice va9 qs.length vc9) := ⟨_, rfl⟩
    rw [← hW5] at hFR hQR bK5 ⊢
    have b05 := hFR.blk HB0.out (fun e => by rcases e with e | e <;> omega)
    have b15 := hFR.blk HB1.out (fun e => by rcases e with e | e <;> omega)
    have hst : ∀ T z v n xs, (26 : Nat) ≠ T → W4.ownsRow (N + 1) T z v n xs → W5.ownsRow (N + 1) T z v n xs := fun T z v n xs hT hv => own_Fr hv hFR (fun g hg e => by
      rcases e with e | e
      · have := own_base hv hg
        omega
      · exact own_ne hv HBK.out hT (by rw [hg, e]))
    have gw5 : G w W5 := ((G.fr (R := fun _ => False) g6).t2 hFR (fun i hi e => by rcases e with e | e <;> omega)).toG (fun _ _ h => h)
    have HCR5 := Lib.hid (hst _ _ _ _ _ (by decide) HCR.out)
    have HRP5 := Lib.hid (fun y hy => hst _ _ _ _ _ (by decide) (HRP.out y hy))
    have HPR5 := Lib.hid (hst _ _ _ _ _ (by decide) HPR.out)
    have HPT5 := Lib.hid (fun y hy => hst _ _ _ _ _ (by decide) (HPT.out y hy))
    have HQR := Lib.hid hQR
    have HB05 := Lib.hid b05
    have HB15 := Lib.hid b15
    have HBK5 := Lib.hid bK5
    have HQS := Lib.hid hqs
    have hq4 : qs.length ≤ 4 := by omega
    clear hW5 hst hQR hQR9 bK5 b05 b15 hqs hFR hrg hown9 hg9 hnil9 bK9 b19 b09 HCR HRP HPR HPT HTR HTL HB0 HB1 HBK HROW2 HADC HBKD HB1D HB0D HGP HI0 HZ0 gD g6 hql hto
    have hr0 : 0 < o.racers.length := by
      obtain ⟨y, hy, _⟩ := hasB_mem.1 (((race_iff r).1 HRB.out).2.2.2.2 t htN)
      have h1 := List.length_pos_of_mem hy
      have h2 := HLO.out
      omega
    obtain ⟨g, cur0, hoa, hgN1, hblk0, hin0, hal0⟩ := row_put HCR5.out hr0
    have hKg : ¬ K = g := fun e => own_ne HCR5.out HBK5.out (by decide) (by rw [hoa, e]; rfl)
    obtain ⟨S, hSI⟩ : ∃ S : List Int, ∀ y, inL S y = (up && (y == sk)) := by
      cases up
      · exact ⟨[], fun y => rfl⟩
      · exact ⟨[sk], fun y => by simp [inL, anyU]⟩
    have HSI := Lib.hid hSI
    have HOA := Lib.hid hoa
    have ho12 : o.racers.length ≤ 12 := by have := HLO.out; omega
    clear hblk0 hin0 hal0 hSI hoa
    go_wp2_with fail
    go_loopw [7] (fun i wr => ∃ k : Nat, k ≤ o.racers.length ∧ i = .int .i64 k ∧ Hid (wr.ownsRow (N + 1) 60 5 (.slice o.ra o.racers.length o.rc) o.racers.length (rcV (mixS S o.racers k))) ∧ Hid (Fr (fun i => i = g) W5 wr)) (fun i _ => o.racers.length - (intOf i).toNat)
    case atStart => exact ⟨0, Nat.zero_le _, rfl, by rw [mixS_zero]; exact HCR5.out, Fr.rf _ _⟩
    case round =>
      obtain ⟨k, hk, rfl, HRW, HFW⟩ := hrel
      obtain ⟨wo, rfl⟩ : ∃ wo, wo = wr := ⟨_, rfl⟩
      have boK := HFW.out.blk HBK5.out hKg
      have bo1 := HFW.out.blk HB15.out (fun e => by omega)
      have n0 := boK.cell 0
      rw [HOA.out] at n0
      have n0' : wo.cell? ⟨K, 0, none⟩ = some (.slice (some ⟨g, 0, none⟩) o.racers.length o.rc) := n0
      have ln := boK.lt
      have x1 := bo1.cell 1
      have lx := bo1.lt
      clear n0
      by_cases hlt : k < o.racers.length
      · have hki : (k : Int) < o.racers.length := by omega
        have hrl : wo.ownsRow (N + 1) 60 5 (.slice o.ra (mixS S o.racers k).length o.rc) (mixS S o.racers k).length (rcV (mixS S o.racers k)) := by rw [mixS_len]; exact HRW.out
        have hkm : k < (mixS S o.racers k).length := by rw [mixS_len]; exact hlt
        obtain ⟨g', cur, hoa', _, hblk, hin, hal⟩ := row_put hrl hkm
        clear hal
        have hgg : g' = g := by
          rw [HOA.out] at hoa'
          injection hoa' with e
          injection e with e _ _
          exact e.symm
        subst hgg
        rcases (own_fn hrl).2 with hx | ⟨gr, ofr, hre, hgr, hcell⟩
        · rw [hx] at hkm; simp at hkm
        obtain ⟨rfl, rfl⟩ : gr = g' ∧ ofr = 0 := by
          rw [hoa'] at hre
          injection hre with e
          injection e with e1 e2 _
          exact ⟨e1.symm, e2.symm⟩
        have hcl := hcell k hkm 0 (by omega)
        rw [mixS_get hlt, Nat.zero_add, Nat.add_zero] at hcl
        obtain ⟨zb, hzb⟩ : ∃ zb, zb = (o.racers.getD k default).bird := ⟨_, rfl⟩
        have q0 : wo.cell? ⟨gr, k * 5, none⟩ = some (.int .i64 zb) := by rw [hzb]; exact hcl
        have HZB : Hid (inL S (o.racers.getD k default).bird = (up && (zb == sk))) := by rw [← hzb]; exact HSI.out zb
        clear hcell hcl hzb hre hrl hkm hoa'
        cases hup : up
        · rw [hup] at x1
          have hs0 : inL S (o.racers.getD k default).bird = false := by rw [HZB.out, hup]; rfl
          have HS0 := Lib.hid hs0
          clear hblk hin hs0
          go_wp2_with fail
          go_roundw
          case rel => exact ⟨k + 1, by omega, by go_num, by rw [mixS_same hlt HS0.out]; exact HRW.out, HFW.out⟩
          case measure => simp [intOf] <;> omega
        · rw [hup] at x1
          by_cases hb : zb = sk
          · subst hb
            have hs1 : inL S (o.racers.getD k default).bird = true := by rw [HZB.out, hup]; simp
            have HS1 := Lib.hid hs1
            obtain ⟨u2, hu2⟩ := Option.isSome_iff_exists.1 (blk_has hblk (i := k * 5 + 2) (by omega))
            have z2 := hblk.frozen (k * 5 + 2)
            have lg := hblk.lt
            have hblk2 := hblk.set_ (k * 5 + 2) (.int .i64 0)
            obtain ⟨u3, hu3⟩ := Option.isSome_iff_exists.1 (blk_has hblk2 (i := k * 5 + 3) (by rw [Array.size_setIfInBounds]; omega))
            have z3 := hblk2.frozen (k * 5 + 3)
            have hgK2 : ¬ gr = K := fun e => hKg e.symm
            have hSk : ∀ W', G wo W' → W'.cell? ⟨K, 0, none⟩ = some (.slice (some ⟨gr, 0, none⟩) o.racers.length o.rc) ∧ K < W'.heap.size := fun W' hW => by
              refine ⟨?_, (boK.keep hW).lt⟩
              have := (boK.keep hW).cell 0
              rw [HOA.out] at this
              exact this
            have HU3 := Lib.hid hu3
            have HZ3 := Lib.hid z3
            have HKK := Lib.hid boK
            clear hblk hblk2 boK hu3 z3 hs1
            go_upto_region 10 with fail
            clear n0' ln
            refine wp_region_Y (S := fun W' => W'.cell? ⟨K, 0, none⟩ = some (.slice (some ⟨gr, 0, none⟩) o.racers.length o.rc) ∧ K < W'.heap.size) 11 12 rfl (by kernel_rfl) (hSk _ (G.rf _).d) (fun hS => ?_)
            refine wpAnyY_take (i := 0) (v := ?_) rfl (by kernel_rfl) (by kernel_rfl) (by kernel_rfl) (by kernel_rfl) (fun _ _ _ h => h) (Or.inl ⟨by kernel_rfl, ?_⟩) hS ?_
            rotate_left
            · intro w' hSw; go_simp; with_reducible rfl
            try simp only [Act.put, List.getElem_toArray, List.getElem_cons_zero, List.getElem_cons_succ, List.setIfInBounds_toArray, List.set_cons_zero, List.set_cons_succ]
            refine wpAnyY_take (i := 1) (v := ?_) rfl (by kernel_rfl) (by kernel_rfl) (by kernel_rfl) (by kernel_rfl) (fun _ _ _ h => h) (Or.inl ⟨by kernel_rfl, ?_⟩) hS ?_
            rotate_left
            · intro w' hSw; obtain ⟨s4, s5⟩ := hSw; go_simp; with_reducible rfl
            try simp only [Act.put, List.getElem_toArray, List.getElem_cons_zero, List.getElem_cons_succ, List.setIfInBounds_toArray, List.set_cons_zero, List.set_cons_succ]
            refine wpAnyY_take (i := 2) (v := ?_) rfl (by kernel_rfl) (by kernel_rfl) (by kernel_rfl) (by kernel_rfl) (fun _ _ _ h => h) (Or.inl ⟨by kernel_rfl, ?_⟩) hS ?_
            rotate_left
            · intro w' hSw; go_simp; with_reducible rfl
            try simp only [Act.put, List.getElem_toArray, List.getElem_cons_zero, List.getElem_cons_succ, List.setIfInBounds_toArray, List.set_cons_zero, List.set_cons_succ]
            refine wpAnyY_take (i := 3) (v := ?_) rfl (by kernel_rfl) (by kernel_rfl) (by kernel_rfl) (by kernel_rfl) (fun _ _ _ h => h) (Or.inl ⟨by kernel_rfl, ?_⟩) hS ?_
            rotate_left
            · intro w' hSw; go_simp; with_reducible rfl
            try simp only [Act.put, List.getElem_toArray, List.getElem_cons_zero, List.getElem_cons_succ, List.setIfInBounds_toArray, List.set_cons_zero, List.set_cons_succ]
            refine wpAnyY_take (i := 4) (v := ?_) rfl (by kernel_rfl) (by kernel_rfl) (by kernel_rfl) (by kernel_rfl) (fun _ _ _ h => h) (Or.inl ⟨by kernel_rfl, ?_⟩) hS ?_
            rotate_left
            · intro w' hSw; obtain ⟨s4, s5⟩ := hSw; go_simp; with_reducible rfl
            try simp only [Act.put, List.getElem_toArray, List.getElem_cons_zero, List.getElem_cons_succ, List.setIfInBounds_toArray, List.set_cons_zero, List.set_cons_succ]
            refine wpAnyY_take (i := 5) (v := ?_) rfl (by kernel_rfl) (by kernel_rfl) (by kernel_rfl) (by kernel_rfl) (fun _ _ _ h => h) (Or.inl ⟨by kernel_rfl, ?_⟩) hS ?_
            rotate_left
            · intro w' hSw; go_simp; with_reducible rfl
            try simp only [Act.put, List.getElem_toArray, List.getElem_cons_zero, List.getElem_cons_succ, List.setIfInBounds_toArray, List.set_cons_zero, List.set_cons_succ]
            refine wpAnyY_take (i := 6) (v := ?_) rfl (by kernel_rfl) (by kernel_rfl) (by kernel_rfl) (by kernel_rfl) (fun _ _ _ h => h) (Or.inl ⟨by kernel_rfl, ?_⟩) hS ?_
            rotate_left
            · intro w' hSw; go_simp; with_reducible rfl
            try simp only [Act.put, List.getElem_toArray, List.getElem_cons_zero, List.getElem_cons_succ, List.setIfInBounds_toArray, List.set_cons_zero, List.set_cons_succ]
            refine wpAnyY_take (i := 7) (v := ?_) rfl (by kernel_rfl) (by kernel_rfl) (by kernel_rfl) (by kernel_rfl) (fun _ _ _ h => h) (Or.inl ⟨by kernel_rfl, ?_⟩) hS ?_
            rotate_left
            · intro w' hSw; go_simp; with_reducible rfl
            try simp only [Act.put, List.getElem_toArray, List.getElem_cons_zero, List.getElem_cons_succ, List.setIfInBounds_toArray, List.set_cons_zero, List.set_cons_succ]
            refine wpAnyY_oneSW (i := 8) (by kernel_rfl) rfl (by kernel_rfl) (fun K8 hK8 => ?_)
            go_simp
            have hkf := (HKK.out.far (p := ⟨gr, k * 5 + 2, none⟩) (fun e => hgK2 e.symm) (.int .i64 0)).dr
            refine hK8.out _ _ ⟨by have := hkf.cell 0; rw [HOA.out] at this; exact this, hkf.lt⟩ (fun hS => ?_)
            clear hK8 hkf hu2 z2
            try simp only [Act.put, List.getElem_toArray, List.getElem_cons_zero, List.getElem_cons_succ, List.setIfInBounds_toArray, List.set_cons_zero, List.set_cons_succ]
            refine wpAnyY_take (i := 9) (v := ?_) rfl (by kernel_rfl) (by kernel_rfl) (by kernel_rfl) (by kernel_rfl) (fun _ _ _ h => h) (Or.inl ⟨by kernel_rfl, ?_⟩) hS ?_
            rotate_left
            · intro w' hSw; go_simp; with_reducible rfl
            try simp only [Act.put, List.getElem_toArray, List.getElem_cons_zero, List.getElem_cons_succ, List.setIfInBounds_toArray, List.set_cons_zero, List.set_cons_succ]
            refine wpAnyY_take (i := 10) (v := ?_) rfl (by kernel_rfl) (by kernel_rfl) (by kernel_rfl) (by kernel_rfl) (fun _ _ _ h => h) (Or.inl ⟨by kernel_rfl, ?_⟩) hS ?_
            rotate_left
            · intro w' hSw; go_simp; with_reducible rfl
            try simp only [Act.put, List.getElem_toArray, List.getElem_cons_zero, List.getElem_cons_succ, List.setIfInBounds_toArray, List.set_cons_zero, List.set_cons_succ]
            have hu3 := HU3.out
            have z3 := HZ3.out
            have lg2 : gr < (wo.setCell ⟨gr, k * 5 + 2, none⟩ (.int .i64 0)).heap.size := by rw [World.size_setCell]; exact lg
            refine wpAnyY_oneW (i := 11) (by kernel_rfl) rfl (by kernel_rfl) (by kernel_rfl) (fun K11 hK11 => ?_)
            go_simp
            refine hK11.out _ _ ?_
            clear hK11 hu3 z3 lg2
            try simp only [Act.put, List.getElem_toArray, List.getElem_cons_zero, List.getElem_cons_succ, List.setIfInBounds_toArray, List.set_cons_zero, List.set_cons_succ]
            refine wpAnyY_done (by kernel_rfl) ?_ _
            have hrow5 := out_row HRW.out HOA.out hlt HS1.out
            have hFR := (((HFW.out).s (p := ⟨gr, k * 5 + 2, none⟩) (.inl rfl) (.int .i64 0)).s (p := ⟨gr, k * 5 + 3, none⟩) (.inl rfl) (.int .i64 0)).d
            have HR5 := Lib.hid hrow5
            have HF5 := Lib.hid hFR
            clear hrow5 hFR hS
            go_wp2_with fail
            go_roundw
            case rel => exact ⟨k + 1, by omega, by go_num, HR5.out, HF5.out⟩
            case measure => simp [intOf] <;> omega
          · have heb : (zb == sk) = false := by simpa using hb
            have hs0 : inL S (o.racers.getD k default).bird = false := by rw [HZB.out, hup, heb]; rfl
            have HS0 := Lib.hid hs0
            clear hblk hin hs0 hb
            go_wp2_with fail
            go_roundw
            case rel => exact ⟨k + 1, by omega, by go_num, by rw [mixS_same hlt HS0.out]; exact HRW.out, HFW.out⟩
            case measure => simp [intOf] <;> omega
      · obtain rfl : k = o.racers.length := by omega
        have hki : ¬ ((o.racers.length : Nat) : Int) < o.racers.length := by omega
        go_upto_region 11 with fail
        clear n0' ln x1 lx hki
        have hrowF : wo.ownsRow (N + 1) 60 5 (.slice o.ra o.racers.length o.rc) o.racers.length (rcV (o.racers.map (outS S))) := by
          rw [← mixS_all]
          exact HRW.out
        have gwo : G w wo := ((G.fr (R := fun _ => False) gw5).t2 HFW.out (fun i hi e => by omega)).toG (fun _ _ h => h)
        have hsub : qs.Sublist r.protests := by
          rw [HQS.out, ← List.eraseIdx_eq_take_drop_succ]
          exact List.eraseIdx_sublist ..
        have hSP : ∀ c, inL S c = true → c ∈ r.protests := fun c hc => by
          rw [HSI.out, Bool.and_eq_true] at hc
          have e : c = sk := by simpa using hc.2
          rw [e, HSK.out, List.getD_eq_getElem?_getD, List.getElem?_eq_getElem htN]
          exact List.getElem_mem htN
        have hoA := dec_at (S := S) (HAT.out.keep gwo) HFW.out HOA.out HCR5.out hrowF HRP5.out HPR5.out HPT5.out HQR.out HER.out HEP.out (by omega)
        obtain ⟨⟨hrb1, hqb1, hq01⟩, d1, d2, d3, d4, d5, d6⟩ := dec_all (o1 := ⟨o.ra, o.rc, o.racers.map (outS S), o.pa, o.pc, o.pools, va9, vc9, qs⟩) HRB.out HER.out HEP.out HET.out HQB.out rfl rfl hsub hSP
        have hov : (⟨o.ra, o.rc, o.racers.map (outS S), o.pa, o.pc, o.pools, va9, vc9, qs⟩ : Ra).v = #[.slice o.ra o.racers.length o.rc, .slice o.pa o.pools.length o.pc, .slice va9 qs.length vc9] := by
          unfold Ra.v
          dsimp only
          rw [List.length_map]
        have HC3 := Lib.hid (fun (W : World) (hW : G wo W) => canC _ p b W (hoA.keep hW))
        have HC4 := Lib.hid (fun (W : World) (hW : G wo W) => fiC _ p W (hoA.keep hW) hq01)
        rw [hov] at HC3 HC4
        have HO1R : Hid ((⟨o.ra, o.rc, o.racers.map (outS S), o.pa, o.pc, o.pools, va9, vc9, qs⟩ : Ra).racers.length ≤ 12) := by
          show (o.racers.map (outS S)).length ≤ 12
          rw [List.length_map]
          exact ho12
        generalize (⟨o.ra, o.rc, o.racers.map (outS S), o.pa, o.pc, o.pools, va9, vc9, qs⟩ : Ra) = o1 at *
        obtain ⟨l1, hl1⟩ : ∃ l1, l1 = (canT r p b).1 := ⟨_, rfl⟩
        obtain ⟨u1, hu1⟩ : ∃ u1, u1 = (canT r p b).2.1 := ⟨_, rfl⟩
        obtain ⟨l2, hl2⟩ : ∃ l2, l2 = (canT o1 p b).1 := ⟨_, rfl⟩
        obtain ⟨u2, hu2⟩ : ∃ u2, u2 = (canT o1 p b).2.1 := ⟨_, rfl⟩
        rw [← hl1, ← hu1, d4] at HC1
        rw [← hl2, ← hu2, d5] at HC3
        rw [← hl1, ← hl2] at d1
        rw [← hu1, ← hu2] at d2
        rw [← hl2, ← hu2] at d3
        have e1 : decide (l2 < l1) = false := decide_eq_false (by omega)
        have e2 : decide (u1 < u2) = false := decide_eq_false (by omega)
        have e3 : decide (u2 < l2) = false := decide_eq_false (by omega)
        have e1' : ¬ l2 < l1 := by omega
        have e2' : ¬ u1 < u2 := by omega
        have e3' : ¬ u2 < l2 := by omega
        have HD6 := Lib.hid d6
        have HBo := Lib.hid (HFW.out.blk HB05.out (fun e => by omega))
        have HXo := Lib.hid bo1
        have HKo := Lib.hid boK
        clear hl1 hu1 hl2 hu2 d1 d2 d3 d4 d5 d6 hov hoA hSP hsub hrowF hrb1 hqb1 hq01 HRW HFW HCR5 HRP5 HPR5 HPT5 HQR HB05 HB15 HBK5 HSI HOA HQS HSK HER HEP HET HTO gw5 boK bo1
        have m0 := HBo.out.cell 0
        have m1 := HBo.out.cell 1
        have m2 := HBo.out.cell 2
        have l0 := HBo.out.lt
        have x2 := HXo.out.cell 2
        have x3 := HXo.out.cell 3
        have lx := HXo.out.lt
        go_upto_region 12 with (go_at_call 25; refine (HC1.out _ gwo).mono ?_; rintro e w10 ⟨hG10, rfl⟩)
        have HS1 := Lib.hid (Blk.new w10 62 #[.int .i64 l1, .int .i64 u1])
        have h10 := hG10.a (.cells #[.int .i64 l1, .int .i64 u1] 62)
        clear m0 m1 m2 l0 x2 x3 lx
        obtain ⟨K1, hK1⟩ : ∃ K1, K1 = w10.heap.size := ⟨_, rfl⟩
        change Code.wp _ _ _ _ (w10.alloc (.cells #[.int .i64 l1, .int .i64 u1] 62))
        rw [← hK1] at HS1 ⊢
        clear hK1 hG10
        generalize w10.alloc (.cells #[.int .i64 l1, .int .i64 u1] 62) = w11 at *
        have m0 := (HKo.out.keep h10).cell 0
        have m1 := (HKo.out.keep h10).cell 1
        have m2 := (HKo.out.keep h10).cell 2
        have l0 := (HKo.out.keep h10).lt
        have x2 := (HXo.out.keep h10).cell 2
        have x3 := (HXo.out.keep h10).cell 3
        have lx := (HXo.out.keep h10).lt
        go_upto_region 13 with (go_at_call 25; refine (HC3.out _ h10).mono ?_; rintro e w12 ⟨hG12, rfl⟩)
        have HS2 := Lib.hid (Blk.new w12 62 #[.int .i64 l2, .int .i64 u2])
        have hC := hG12.a (.cells #[.int .i64 l2, .int .i64 u2] 62)
        have h12' := h10.t hC
        clear m0 m1 m2 l0 x2 x3 lx
        obtain ⟨K2, hK2⟩ : ∃ K2, K2 = w12.heap.size := ⟨_, rfl⟩
        change Code.wp _ _ _ _ (w12.alloc (.cells #[.int .i64 l2, .int .i64 u2] 62))
        rw [← hK2] at HS2 ⊢
        clear hK2 hG12
        generalize w12.alloc (.cells #[.int .i64 l2, .int .i64 u2] 62) = w13 at *
        have m0 := (HBo.out.keep h12').cell 0
        have m1 := (HBo.out.keep h12').cell 1
        have m2 := (HBo.out.keep h12').cell 2
        have l0 := (HBo.out.keep h12').lt
        have x2 := (HXo.out.keep h12').cell 2
        have lx := (HXo.out.keep h12').lt
        go_upto_region 14 with (go_at_call 29; refine (HC2.out _ (gwo.t h12')).mono ?_; rintro e w14 ⟨hG14, a1, c1, a2, c2, SS, MM, rfl, hi1, hi2, hf1⟩)
        have h14 := h12'.t hG14
        have HI1 := Lib.hid hi1
        have HF1 := Lib.hid hf1
        clear m0 m1 m2 l0 x2 lx hi1 hi2 hf1
        have m0 := (HKo.out.keep h14).cell 0
        have m1 := (HKo.out.keep h14).cell 1
        have m2 := (HKo.out.keep h14).cell 2
        have l0 := (HKo.out.keep h14).lt
        have x2 := (HXo.out.keep h14).cell 2
        have lx := (HXo.out.keep h14).lt
        go_upto_region 15 with (go_at_call 29; refine (HC4.out _ h14).mono ?_; rintro e w15 ⟨hG15, a3, c3, a4, c4, S1, M1, rfl, hi3, hi4, hf2⟩)
        have HI3 := Lib.hid hi3
        have HSS := Lib.hid (HD6.out _ _ _ _ HF1.out hf2)
        have hsl : SS.length ≤ 1000 := by
          have h1 := HF1.out.len
          have h2 := runners_len r p
          have h3 : (fuOf r p none 0).rs.length = (runners r p).length := rfl
          omega
        have hsl1 : S1.length ≤ 1000 := by
          have h1 := hf2.len
          have h2 := runners_len o1 p
          have h3 : (fuOf o1 p none 0).rs.length = (runners o1 p).length := rfl
          have h4 := HO1R.out
          omega
        have HSL := Lib.hid hsl
        have HSL1 := Lib.hid hsl1
        have HIA := Lib.hid (HI1.out.below hG15)
        have b1 := (HS1.out.keep hC).keep (hG14.t hG15)
        have b2 := HS2.out.keep (hG14.t hG15)
        have g15 := gwo.t (h14.t hG15)
        clear m0 m1 m2 l0 x2 lx hi3 hi4 hf2 hsl hsl1
        have v0 := b1.cell 0
        have v1 := b1.cell 1
        have lv := b1.lt
        have y0 := b2.cell 0
        have y1 := b2.cell 1
        have ly := b2.lt
        go_wp2_with fail
        clear v0 v1 lv y0 y1 ly b1 b2
        go_loopw [18] (fun i wr => ∃ k : Nat, k ≤ SS.length ∧ i = .int .i64 k ∧ G w15 wr) (fun i _ => SS.length - (intOf i).toNat)
        case atStart => exact ⟨0, Nat.zero_le _, rfl, G.rf _⟩
        case round =>
          obtain ⟨k, hk, rfl, hG⟩ := hrel
          obtain ⟨wo, rfl⟩ : ∃ wo, wo = wr := ⟨_, rfl⟩
          by_cases hlt : k < SS.length
          · have hki : (k : Int) < SS.length := by omega
            rcases HIA.out.below hG with hx | ⟨g1, o1, rfl, hg1, hc1⟩
            · rw [hx] at hlt; simp at hlt
            have e1 := hc1 k hlt
            have hin : inL S1 (SS.getD k 0) = true := HSS.out _ (by
              rw [List.getD_eq_getElem?_getD, List.getElem?_eq_getElem hlt]
              exact List.getElem_mem hlt)
            have HIN := Lib.hid (In_any S1 a3 c3 (SS.getD k 0) wo (HI3.out.below hG) HSL1.out)
            rw [hin] at HIN
            generalize SS.getD k 0 = y at *
            clear hc1 hin
            have hsl := HSL.out
            go_wp2_with (go_at_call 28; refine (HIN.out).mono ?_; rintro e w16 ⟨rfl, hG16⟩)
            go_roundw
            case rel => exact ⟨k + 1, by omega, by go_num, hG.t hG16⟩
            case measure => simp [intOf] <;> omega
          · obtain rfl : k = SS.length := by omega
            have hki : ¬ ((SS.length : Nat) : Int) < SS.length := by omega
            go_wp2_with (go_at_call 15; refine (HWK.out _).mono ?_; rintro e w16 ⟨rfl, hG16⟩)
            have gz := (g15.t hG).t hG16
            first | exact ⟨rfl, gz⟩ | (go_ret; exact ⟨rfl, gz⟩)
end Go.Proofs.YtnkmcoljijmgpaaGreat
