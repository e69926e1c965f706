import Derived.Test.YtcekdljjmfkacaaGreatXf
import Derived.Test.YtcekdljjmfkacaaGreatXe
set_option linter.unusedSimpArgs false
set_option linter.unusedVariables false
namespace Go.Proofs.YtcekdljjmfkacaaGreat
open Go.RowKit Go.Shelf
attribute [local go_sem] Oper.semAt_some wide_fn wide_dep wideR_fn wideR_dep
set_option maxRecDepth 100000 in
set_option maxHeartbeats 8000000 in
theorem FirstLaw_walk (REL : Array Value) (QQ : Array Value → World → Prop) (n k el sn : Nat) (home mi to px py hr a z : Int) (w : World) (hIs : IsRel REL)
    (hFa : ∀ W, G w W → Calls Tryz.prog 6 #[.agg REL] W (FarRet W n k el sn))
    (hCp : (n ≤ 20 ∧ k ≤ 30 ∧ el ≤ 40 ∧ sn ≤ 60) → ∀ W, G w W → Calls Tryz.prog 8 #[.agg REL] W fun e w' => ∃ RO, e = .returned (.agg RO) ∧ G W w' ∧ QQ RO w')
    (hA : (n ≤ 20 ∧ k ≤ 30 ∧ el ≤ 40 ∧ sn ≤ 60) → ∀ W RO, G w W → QQ RO W → Calls Tryz.prog 25 #[.agg RO, .int .i64 mi, .int .i64 to] W fun e w' => e = .returned (.tuple #[.int .i64 a, .int .i64 z]) ∧ G W w')
    (hB : (n ≤ 20 ∧ k ≤ 30 ∧ el ≤ 40 ∧ sn ≤ 60) → ∀ W, G w W → Calls Tryz.prog 26 #[.agg REL, .int .i64 mi, .int .i64 to] W fun e w' => e = .returned (.tuple #[.int .i64 a, .int .i64 z]) ∧ G W w') :
    Calls Tryz.prog 5 #[.agg REL, .agg #[.int .i64 home, .int .i64 mi, .int .i64 to, .int .i64 px, .int .i64 py, .int .i64 hr]] w fun e w' => e = .returned (.bool true) ∧ G w w' := by
  have HIS := Lib.hid hIs
  have HFA := Lib.hid hFa
  have HCP0 := Lib.hid hCp
  have HA0 := Lib.hid hA
  have HB0 := Lib.hid hB
  have HWK := Lib.hid (fun W : World => works_any W)
  clear hIs hFa hCp hA hB
  have g0 : G w ((w.alloc (.cells REL 35)).alloc (.cells #[.int .i64 home, .int .i64 mi, .int .i64 to, .int .i64 px, .int .i64 py, .int .i64 hr] 37)) := ((G.rf _).a _).a _
  have b0 : Blk ((w.alloc (.cells REL 35)).alloc (.cells #[.int .i64 home, .int .i64 mi, .int .i64 to, .int .i64 px, .int .i64 py, .int .i64 hr] 37)) w.heap.size 35 REL := (Blk.new w 35 REL).keep ((G.rf _).a _)
  have c0 : Blk ((w.alloc (.cells REL 35)).alloc (.cells #[.int .i64 home, .int .i64 mi, .int .i64 to, .int .i64 px, .int .i64 py, .int .i64 hr] 37)) (w.heap.size + 1) 37 #[.int .i64 home, .int .i64 mi, .int .i64 to, .int .i64 px, .int .i64 py, .int .i64 hr] := Blk.new1 w _ 37 _
  go_enter Tryz.func5, Tryz.ntmps5
  go_upto_region 1 with fail
  change Code.wp _ _ _ _ ((w.alloc (.cells REL 35)).alloc (.cells #[.int .i64 home, .int .i64 mi, .int .i64 to, .int .i64 px, .int .i64 py, .int .i64 hr] 37))
  generalize (w.alloc (.cells REL 35)).alloc (.cells #[.int .i64 home, .int .i64 mi, .int .i64 to, .int .i64 px, .int .i64 py, .int .i64 hr] 37) = w1 at *
  refine wp_region_lit ?_
  refine wpList_load35 w.heap.size 2 HIS.out rfl rfl rfl b0 ?_
  try simp only [Act.put, List.getElem_toArray, List.getElem_cons_zero, List.getElem_cons_succ, List.setIfInBounds_toArray, List.set_cons_zero, List.set_cons_succ]
  refine wpList_plain rfl fun K hK => ?_
  go_simp
  refine (HFA.out _ g0).mono ?_
  rintro e w2 ⟨bb, rfl, hbd, hG2⟩
  refine hK _ _ ?_
  clear hK K
  try simp only [Act.put, List.getElem_toArray, List.getElem_cons_zero, List.getElem_cons_succ, List.setIfInBounds_toArray, List.set_cons_zero, List.set_cons_succ]
  clear HFA
  replace b0 := b0.keep hG2
  replace c0 := c0.keep hG2
  replace g0 := g0.t hG2
  clear hG2
  have x1 : w2.cell? ⟨w.heap.size + 1, 1, none⟩ = some (.int .i64 mi) := c0.cell 1
  have x2 : w2.cell? ⟨w.heap.size + 1, 2, none⟩ = some (.int .i64 to) := c0.cell 2
  have lx := c0.lt
  cases bb
  case true =>
    go_wp2_with (go_at_call 7; refine (HWK.out _).mono ?_; rintro e w9 ⟨rfl, hG9⟩)
    go_ret
    exact ⟨rfl, g0.t hG9⟩
  have HBD := hbd rfl
  have HCP := Lib.hid (HCP0.out HBD)
  have HA := Lib.hid (HA0.out HBD)
  have HB := Lib.hid (HB0.out HBD)
  clear HCP0 HA0 HB0 hbd HBD
  by_cases c1 : 0 ≤ mi
  · by_cases c2 : to ≤ 9999
    · obtain ⟨d, hd⟩ : ∃ d, IntKind.i64.wrap (to - mi) = d := ⟨_, rfl⟩
      by_cases c3 : 60 < d
      · go_wp2_with (go_at_call 7; refine (HWK.out _).mono ?_; rintro e w9 ⟨rfl, hG9⟩)
        go_ret
        exact ⟨rfl, g0.t hG9⟩
      · go_upto_region 3 with fail
        clear x1 x2 lx
        have hSk : ∀ W', G w2 W' → (Blk W' w.heap.size 35 REL ∧ Blk W' (w.heap.size + 1) 37 #[.int .i64 home, .int .i64 mi, .int .i64 to, .int .i64 px, .int .i64 py, .int .i64 hr]) := fun W' hW => ⟨b0.keep hW, c0.keep hW⟩
        refine wp_region_Y (S := fun W' => Blk W' w.heap.size 35 REL ∧ Blk W' (w.heap.size + 1) 37 #[.int .i64 home, .int .i64 mi, .int .i64 to, .int .i64 px, .int .i64 py, .int .i64 hr]) 11 12 rfl (by kernel_rfl) (hSk _ (G.rf _).d) (fun hS => ?_)
        have ga := (G.rf w2).d
        refine wpAnyY_take (i := 0) (v := .agg REL) rfl (by kernel_rfl) (by kernel_rfl) (by kernel_rfl) (by kernel_rfl) (fun _ _ _ h => h) (Or.inl ⟨by kernel_rfl, ?_⟩) hS ?_
        · intro w' hSw; exact load46o w' w.heap.size 2 HIS.out _ _ rfl (by kernel_rfl) hSw.1
        try simp only [Act.put, List.getElem_toArray, List.getElem_cons_zero, List.getElem_cons_succ, List.setIfInBounds_toArray, List.set_cons_zero, List.set_cons_succ]
        refine wpAnyY_take (i := 2) (v := ?_) rfl (by kernel_rfl) (by kernel_rfl) (by kernel_rfl) (by kernel_rfl) (fun _ _ _ h => h) (Or.inl ⟨by kernel_rfl, ?_⟩) hS ?_
        rotate_left
        · intro w' hSw; go_simp; with_reducible rfl
        try simp only [Act.put, List.getElem_toArray, List.getElem_cons_zero, List.getElem_cons_succ, List.setIfInBounds_toArray, List.set_cons_zero, List.set_cons_succ]
        refine wpAnyY_take (i := 3) (v := ?_) rfl (by kernel_rfl) (by kernel_rfl) (by kernel_rfl) (by kernel_rfl) (fun _ _ _ h => h) (Or.inl ⟨by kernel_rfl, ?_⟩) hS ?_
        rotate_left
        · intro w' hSw; have x1 := hSw.2.cell 1; have l1 := hSw.2.lt; go_simp; with_reducible rfl
        try simp only [Act.put, List.getElem_toArray, List.getElem_cons_zero, List.getElem_cons_succ, List.setIfInBounds_toArray, List.set_cons_zero, List.set_cons_succ]
        refine wpAnyY_take (i := 4) (v := ?_) rfl (by kernel_rfl) (by kernel_rfl) (by kernel_rfl) (by kernel_rfl) (fun _ _ _ h => h) (Or.inl ⟨by kernel_rfl, ?_⟩) hS ?_
        rotate_left
        · intro w' hSw; go_simp; with_reducible rfl
        try simp only [Act.put, List.getElem_toArray, List.getElem_cons_zero, List.getElem_cons_succ, List.setIfInBounds_toArray, List.set_cons_zero, List.set_cons_succ]
        refine wpAnyY_take (i := 5) (v := ?_) rfl (by kernel_rfl) (by kernel_rfl) (by kernel_rfl) (by kernel_rfl) (fun _ _ _ h => h) (Or.inl ⟨by kernel_rfl, ?_⟩) hS ?_
        rotate_left
        · intro w' hSw; have x2 := hSw.2.cell 2; have l1 := hSw.2.lt; go_simp; with_reducible rfl
        try simp only [Act.put, List.getElem_toArray, List.getElem_cons_zero, List.getElem_cons_succ, List.setIfInBounds_toArray, List.set_cons_zero, List.set_cons_succ]
        refine wpAnyY_oneSW (i := 1) (by kernel_rfl) rfl (by kernel_rfl) (fun K1 hK1 => ?_)
        go_simp
        refine (HCP.out _ (g0.t ga)).mono ?_
        rintro e w3 ⟨RO, rfl, hG3, hq⟩
        replace ga := ga.t hG3
        refine hK1.out _ _ (hSk _ ga) (fun hS => ?_)
        clear hK1
        try simp only [Act.put, List.getElem_toArray, List.getElem_cons_zero, List.getElem_cons_succ, List.setIfInBounds_toArray, List.set_cons_zero, List.set_cons_succ]
        refine wpAnyY_oneSW (i := 6) (by kernel_rfl) rfl (by kernel_rfl) (fun K6 hK6 => ?_)
        go_simp
        refine (HA.out _ _ (g0.t ga) hq).mono ?_
        rintro e w4 ⟨rfl, hG4⟩
        replace ga := ga.t hG4
        refine hK6.out _ _ (hSk _ ga) (fun hS => ?_)
        clear hK6
        try simp only [Act.put, List.getElem_toArray, List.getElem_cons_zero, List.getElem_cons_succ, List.setIfInBounds_toArray, List.set_cons_zero, List.set_cons_succ]
        refine wpAnyY_take (i := 7) (v := ?_) rfl (by kernel_rfl) (by kernel_rfl) (by kernel_rfl) (by kernel_rfl) (fun _ _ _ h => h) (Or.inl ⟨by kernel_rfl, ?_⟩) hS ?_
        rotate_left
        · intro w' hSw; go_simp; with_reducible rfl
        try simp only [Act.put, List.getElem_toArray, List.getElem_cons_zero, List.getElem_cons_succ, List.setIfInBounds_toArray, List.set_cons_zero, List.set_cons_succ]
        refine wpAnyY_take (i := 8) (v := ?_) rfl (by kernel_rfl) (by kernel_rfl) (by kernel_rfl) (by kernel_rfl) (fun _ _ _ h => h) (Or.inl ⟨by kernel_rfl, ?_⟩) hS ?_
        rotate_left
        · intro w' hSw; go_simp; with_reducible rfl
        try simp only [Act.put, List.getElem_toArray, List.getElem_cons_zero, List.getElem_cons_succ, List.setIfInBounds_toArray, List.set_cons_zero, List.set_cons_succ]
        refine wpAnyY_take (i := 9) (v := ?_) rfl (by kernel_rfl) (by kernel_rfl) (by kernel_rfl) (by kernel_rfl) (fun _ _ _ h => h) (Or.inl ⟨by kernel_rfl, ?_⟩) hS ?_
        rotate_left
        · intro w' hSw; go_simp; with_reducible rfl
        try simp only [Act.put, List.getElem_toArray, List.getElem_cons_zero, List.getElem_cons_succ, List.setIfInBounds_toArray, List.set_cons_zero, List.set_cons_succ]
        refine wpAnyY_take (i := 10) (v := ?_) rfl (by kernel_rfl) (by kernel_rfl) (by kernel_rfl) (by kernel_rfl) (fun _ _ _ h => h) (Or.inl ⟨by kernel_rfl, ?_⟩) hS ?_
        rotate_left
        · intro w' hSw; go_simp; with_reducible rfl
        try simp only [Act.put, List.getElem_toArray, List.getElem_cons_zero, List.getElem_cons_succ, List.setIfInBounds_toArray, List.set_cons_zero, List.set_cons_succ]
        refine wpAnyY_oneW (i := 11) (by kernel_rfl) rfl (by kernel_rfl) (by kernel_rfl) (fun K11 hK11 => ?_)
        go_simp
        refine hK11.out _ _ ?_
        clear hK11
        try simp only [Act.put, List.getElem_toArray, List.getElem_cons_zero, List.getElem_cons_succ, List.setIfInBounds_toArray, List.set_cons_zero, List.set_cons_succ]
        refine wpAnyY_done (by kernel_rfl) ?_ _
        clear hS hSk hq
        replace g0 := g0.t ga
        replace b0 := b0.keep ga
        replace c0 := c0.keep ga
        clear ga HCP HA
        have x1 : w4.cell? ⟨w.heap.size + 1, 1, none⟩ = some (.int .i64 mi) := c0.cell 1
        have x2 : w4.cell? ⟨w.heap.size + 1, 2, none⟩ = some (.int .i64 to) := c0.cell 2
        have lx := c0.lt
        go_upto_region 4 with fail
        refine wp_region_lit ?_
        refine wpList_load35 w.heap.size 2 HIS.out rfl rfl rfl b0 ?_
        try simp only [Act.put, List.getElem_toArray, List.getElem_cons_zero, List.getElem_cons_succ, List.setIfInBounds_toArray, List.set_cons_zero, List.set_cons_succ]
        go_wp2_with (first | (go_at_call 26; refine (HB.out _ g0).mono ?_; rintro e w5 ⟨rfl, hG5⟩) | (go_at_call 7; refine (HWK.out _).mono ?_; rintro e w9 ⟨rfl, hG9⟩))
        go_ret
        exact ⟨by simp, (g0.t hG5).t hG9⟩
    · go_upto_region 3 with fail
      clear x1 x2 lx
      have hSk : ∀ W', G w2 W' → (Blk W' w.heap.size 35 REL ∧ Blk W' (w.heap.size + 1) 37 #[.int .i64 home, .int .i64 mi, .int .i64 to, .int .i64 px, .int .i64 py, .int .i64 hr]) := fun W' hW => ⟨b0.keep hW, c0.keep hW⟩
      refine wp_region_Y (S := fun W' => Blk W' w.heap.size 35 REL ∧ Blk W' (w.heap.size + 1) 37 #[.int .i64 home, .int .i64 mi, .int .i64 to, .int .i64 px, .int .i64 py, .int .i64 hr]) 11 12 rfl (by kernel_rfl) (hSk _ (G.rf _).d) (fun hS => ?_)
      have ga := (G.rf w2).d
      refine wpAnyY_take (i := 0) (v := .agg REL) rfl (by kernel_rfl) (by kernel_rfl) (by kernel_rfl) (by kernel_rfl) (fun _ _ _ h => h) (Or.inl ⟨by kernel_rfl, ?_⟩) hS ?_
      · intro w' hSw; exact load46o w' w.heap.size 2 HIS.out _ _ rfl (by kernel_rfl) hSw.1
      try simp only [Act.put, List.getElem_toArray, List.getElem_cons_zero, List.getElem_cons_succ, List.setIfInBounds_toArray, List.set_cons_zero, List.set_cons_succ]
      refine wpAnyY_take (i := 2) (v := ?_) rfl (by kernel_rfl) (by kernel_rfl) (by kernel_rfl) (by kernel_rfl) (fun _ _ _ h => h) (Or.inl ⟨by kernel_rfl, ?_⟩) hS ?_
      rotate_left
      · intro w' hSw; go_simp; with_reducible rfl
      try simp only [Act.put, List.getElem_toArray, List.getElem_cons_zero, List.getElem_cons_succ, List.setIfInBounds_toArray, List.set_cons_zero, List.set_cons_succ]
      refine wpAnyY_take (i := 3) (v := ?_) rfl (by kernel_rfl) (by kernel_rfl) (by kernel_rfl) (by kernel_rfl) (fun _ _ _ h => h) (Or.inl ⟨by kernel_rfl, ?_⟩) hS ?_
      rotate_left
      · intro w' hSw; have x1 := hSw.2.cell 1; have l1 := hSw.2.lt; go_simp; with_reducible rfl
      try simp only [Act.put, List.getElem_toArray, List.getElem_cons_zero, List.getElem_cons_succ, List.setIfInBounds_toArray, List.set_cons_zero, List.set_cons_succ]
      refine wpAnyY_take (i := 4) (v := ?_) rfl (by kernel_rfl) (by kernel_rfl) (by kernel_rfl) (by kernel_rfl) (fun _ _ _ h => h) (Or.inl ⟨by kernel_rfl, ?_⟩) hS ?_
      rotate_left
      · intro w' hSw; go_simp; with_reducible rfl
      try simp only [Act.put, List.getElem_toArray, List.getElem_cons_zero, List.getElem_cons_succ, List.setIfInBounds_toArray, List.set_cons_zero, List.set_cons_succ]
      refine wpAnyY_take (i := 5) (v := ?_) rfl (by kernel_rfl) (by kernel_rfl) (by kernel_rfl) (by kernel_rfl) (fun _ _ _ h => h) (Or.inl ⟨by kernel_rfl, ?_⟩) hS ?_
      rotate_left
      · intro w' hSw; have x2 := hSw.2.cell 2; have l1 := hSw.2.lt; go_simp; with_reducible rfl
      try simp only [Act.put, List.getElem_toArray, List.getElem_cons_zero, List.getElem_cons_succ, List.setIfInBounds_toArray, List.set_cons_zero, List.set_cons_succ]
      refine wpAnyY_oneSW (i := 1) (by kernel_rfl) rfl (by kernel_rfl) (fun K1 hK1 => ?_)
      go_simp
      refine (HCP.out _ (g0.t ga)).mono ?_
      rintro e w3 ⟨RO, rfl, hG3, hq⟩
      replace ga := ga.t hG3
      refine hK1.out _ _ (hSk _ ga) (fun hS => ?_)
      clear hK1
      try simp only [Act.put, List.getElem_toArray, List.getElem_cons_zero, List.getElem_cons_succ, List.setIfInBounds_toArray, List.set_cons_zero, List.set_cons_succ]
      refine wpAnyY_oneSW (i := 6) (by kernel_rfl) rfl (by kernel_rfl) (fun K6 hK6 => ?_)
      go_simp
      refine (HA.out _ _ (g0.t ga) hq).mono ?_
      rintro e w4 ⟨rfl, hG4⟩
      replace ga := ga.t hG4
      refine hK6.out _ _ (hSk _ ga) (fun hS => ?_)
      clear hK6
      try simp only [Act.put, List.getElem_toArray, List.getElem_cons_zero, List.getElem_cons_succ, List.setIfInBounds_toArray, List.set_cons_zero, List.set_cons_succ]
      refine wpAnyY_take (i := 7) (v := ?_) rfl (by kernel_rfl) (by kernel_rfl) (by kernel_rfl) (by kernel_rfl) (fun _ _ _ h => h) (Or.inl ⟨by kernel_rfl, ?_⟩) hS ?_
      rotate_left
      · intro w' hSw; go_simp; with_reducible rfl
      try simp only [Act.put, List.getElem_toArray, List.getElem_cons_zero, List.getElem_cons_succ, List.setIfInBounds_toArray, List.set_cons_zero, List.set_cons_succ]
      refine wpAnyY_take (i := 8) (v := ?_) rfl (by kernel_rfl) (by kernel_rfl) (by kernel_rfl) (by kernel_rfl) (fun _ _ _ h => h) (Or.inl ⟨by kernel_rfl, ?_⟩) hS ?_
      rotate_left
      · intro w' hSw; go_simp; with_reducible rfl
      try simp only [Act.put, List.getElem_toArray, List.getElem_cons_zero, List.getElem_cons_succ, List.setIfInBounds_toArray, List.set_cons_zero, List.set_cons_succ]
      refine wpAnyY_take (i := 9) (v := ?_) rfl (by kernel_rfl) (by kernel_rfl) (by kernel_rfl) (by kernel_rfl) (fun _ _ _ h => h) (Or.inl ⟨by kernel_rfl, ?_⟩) hS ?_
      rotate_left
      · intro w' hSw; go_simp; with_reducible rfl
      try simp only [Act.put, List.getElem_toArray, List.getElem_cons_zero, List.getElem_cons_succ, List.setIfInBounds_toArray, List.set_cons_zero, List.set_cons_succ]
      refine wpAnyY_take (i := 10) (v := ?_) rfl (by kernel_rfl) (by kernel_rfl) (by kernel_rfl) (by kernel_rfl) (fun _ _ _ h => h) (Or.inl ⟨by kernel_rfl, ?_⟩) hS ?_
      rotate_left
      · intro w' hSw; go_simp; with_reducible rfl
      try simp only [Act.put, List.getElem_toArray, List.getElem_cons_zero, List.getElem_cons_succ, List.setIfInBounds_toArray, List.set_cons_zero, List.set_cons_succ]
      refine wpAnyY_oneW (i := 11) (by kernel_rfl) rfl (by kernel_rfl) (by kernel_rfl) (fun K11 hK11 => ?_)
      go_simp
      refine hK11.out _ _ ?_
      clear hK11
      try simp only [Act.put, List.getElem_toArray, List.getElem_cons_zero, List.getElem_cons_succ, List.setIfInBounds_toArray, List.set_cons_zero, List.set_cons_succ]
      refine wpAnyY_done (by kernel_rfl) ?_ _
      clear hS hSk hq
      replace g0 := g0.t ga
      replace b0 := b0.keep ga
      replace c0 := c0.keep ga
      clear ga HCP HA
      have x1 : w4.cell? ⟨w.heap.size + 1, 1, none⟩ = some (.int .i64 mi) := c0.cell 1
      have x2 : w4.cell? ⟨w.heap.size + 1, 2, none⟩ = some (.int .i64 to) := c0.cell 2
      have lx := c0.lt
      go_upto_region 4 with fail
      refine wp_region_lit ?_
      refine wpList_load35 w.heap.size 2 HIS.out rfl rfl rfl b0 ?_
      try simp only [Act.put, List.getElem_toArray, List.getElem_cons_zero, List.getElem_cons_succ, List.setIfInBounds_toArray, List.set_cons_zero, List.set_cons_succ]
      go_wp2_with (first | (go_at_call 26; refine (HB.out _ g0).mono ?_; rintro e w5 ⟨rfl, hG5⟩) | (go_at_call 7; refine (HWK.out _).mono ?_; rintro e w9 ⟨rfl, hG9⟩))
      go_ret
      exact ⟨by simp, (g0.t hG5).t hG9⟩
  · go_upto_region 3 with fail
    clear x1 x2 lx
    have hSk : ∀ W', G w2 W' → (Blk W' w.heap.size 35 REL ∧ Blk W' (w.heap.size + 1) 37 #[.int .i64 home, .int .i64 mi, .int .i64 to, .int .i64 px, .int .i64 py, .int .i64 hr]) := fun W' hW => ⟨b0.keep hW, c0.keep hW⟩
    refine wp_region_Y (S := fun W' => Blk W' w.heap.size 35 REL ∧ Blk W' (w.heap.size + 1) 37 #[.int .i64 home, .int .i64 mi, .int .i64 to, .int .i64 px, .int .i64 py, .int .i64 hr]) 11 12 rfl (by kernel_rfl) (hSk _ (G.rf _).d) (fun hS => ?_)
    have ga := (G.rf w2).d
    refine wpAnyY_take (i := 0) (v := .agg REL) rfl (by kernel_rfl) (by kernel_rfl) (by kernel_rfl) (by kernel_rfl) (fun _ _ _ h => h) (Or.inl ⟨by kernel_rfl, ?_⟩) hS ?_
    · intro w' hSw; exact load46o w' w.heap.size 2 HIS.out _ _ rfl (by kernel_rfl) hSw.1
    try simp only [Act.put, List.getElem_toArray, List.getElem_cons_zero, List.getElem_cons_succ, List.setIfInBounds_toArray, List.set_cons_zero, List.set_cons_succ]
    refine wpAnyY_take (i := 2) (v := ?_) rfl (by kernel_rfl) (by kernel_rfl) (by kernel_rfl) (by kernel_rfl) (fun _ _ _ h => h) (Or.inl ⟨by kernel_rfl, ?_⟩) hS ?_
    rotate_left
    · intro w' hSw; go_simp; with_reducible rfl
    try simp only [Act.put, List.getElem_toArray, List.getElem_cons_zero, List.getElem_cons_succ, List.setIfInBounds_toArray, List.set_cons_zero, List.set_cons_succ]
    refine wpAnyY_take (i := 3) (v := ?_) rfl (by kernel_rfl) (by kernel_rfl) (by kernel_rfl) (by kernel_rfl) (fun _ _ _ h => h) (Or.inl ⟨by kernel_rfl, ?_⟩) hS ?_
    rotate_left
    · intro w' hSw; have x1 := hSw.2.cell 1; have l1 := hSw.2.lt; go_simp; with_reducible rfl
    try simp only [Act.put, List.getElem_toArray, List.getElem_cons_zero, List.getElem_cons_succ, List.setIfInBounds_toArray, List.set_cons_zero, List.set_cons_succ]
    refine wpAnyY_take (i := 4) (v := ?_) rfl (by kernel_rfl) (by kernel_rfl) (by kernel_rfl) (by kernel_rfl) (fun _ _ _ h => h) (Or.inl ⟨by kernel_rfl, ?_⟩) hS ?_
    rotate_left
    · intro w' hSw; go_simp; with_reducible rfl
    try simp only [Act.put, List.getElem_toArray, List.getElem_cons_zero, List.getElem_cons_succ, List.setIfInBounds_toArray, List.set_cons_zero, List.set_cons_succ]
    refine wpAnyY_take (i := 5) (v := ?_) rfl (by kernel_rfl) (by kernel_rfl) (by kernel_rfl) (by kernel_rfl) (fun _ _ _ h => h) (Or.inl ⟨by kernel_rfl, ?_⟩) hS ?_
    rotate_left
    · intro w' hSw; have x2 := hSw.2.cell 2; have l1 := hSw.2.lt; go_simp; with_reducible rfl
    try simp only [Act.put, List.getElem_toArray, List.getElem_cons_zero, List.getElem_cons_succ, List.setIfInBounds_toArray, List.set_cons_zero, List.set_cons_succ]
    refine wpAnyY_oneSW (i := 1) (by kernel_rfl) rfl (by kernel_rfl) (fun K1 hK1 => ?_)
    go_simp
    refine (HCP.out _ (g0.t ga)).mono ?_
    rintro e w3 ⟨RO, rfl, hG3, hq⟩
    replace ga := ga.t hG3
    refine hK1.out _ _ (hSk _ ga) (fun hS => ?_)
    clear hK1
    try simp only [Act.put, List.getElem_toArray, List.getElem_cons_zero, List.getElem_cons_succ, List.setIfInBounds_toArray, List.set_cons_zero, List.set_cons_succ]
    refine wpAnyY_oneSW (i := 6) (by kernel_rfl) rfl (by kernel_rfl) (fun K6 hK6 => ?_)
    go_simp
    refine (HA.out _ _ (g0.t ga) hq).mono ?_
    rintro e w4 ⟨rfl, hG4⟩
    replace ga := ga.t hG4
    refine hK6.out _ _ (hSk _ ga) (fun hS => ?_)
    clear hK6
    try simp only [Act.put, List.getElem_toArray, List.getElem_cons_zero, List.getElem_cons_succ, List.setIfInBounds_toArray, List.set_cons_zero, List.set_cons_succ]
    refine wpAnyY_take (i := 7) (v := ?_) rfl (by kernel_rfl) (by kernel_rfl) (by kernel_rfl) (by kernel_rfl) (fun _ _ _ h => h) (Or.inl ⟨by kernel_rfl, ?_⟩) hS ?_
    rotate_left
    · intro w' hSw; go_simp; with_reducible rfl
    try simp only [Act.put, List.getElem_toArray, List.getElem_cons_zero, List.getElem_cons_succ, List.setIfInBounds_toArray, List.set_cons_zero, List.set_cons_succ]
    refine wpAnyY_take (i := 8) (v := ?_) rfl (by kernel_rfl) (by kernel_rfl) (by kernel_rfl) (by kernel_rfl) (fun _ _ _ h => h) (Or.inl ⟨by kernel_rfl, ?_⟩) hS ?_
    rotate_left
    · intro w' hSw; go_simp; with_reducible rfl
    try simp only [Act.put, List.getElem_toArray, List.getElem_cons_zero, List.getElem_cons_succ, List.setIfInBounds_toArray, List.set_cons_zero, List.set_cons_succ]
    refine wpAnyY_take (i := 9) (v := ?_) rfl (by kernel_rfl) (by kernel_rfl) (by kernel_rfl) (by kernel_rfl) (fun _ _ _ h => h) (Or.inl ⟨by kernel_rfl, ?_⟩) hS ?_
    rotate_left
    · intro w' hSw; go_simp; with_reducible rfl
    try simp only [Act.put, List.getElem_toArray, List.getElem_cons_zero, List.getElem_cons_succ, List.setIfInBounds_toArray, List.set_cons_zero, List.set_cons_succ]
    refine wpAnyY_take (i := 10) (v := ?_) rfl (by kernel_rfl) (by kernel_rfl) (by kernel_rfl) (by kernel_rfl) (fun _ _ _ h => h) (Or.inl ⟨by kernel_rfl, ?_⟩) hS ?_
    rotate_left
    · intro w' hSw; go_simp; with_reducible rfl
    try simp only [Act.put, List.getElem_toArray, List.getElem_cons_zero, List.getElem_cons_succ, List.setIfInBounds_toArray, List.set_cons_zero, List.set_cons_succ]
    refine wpAnyY_oneW (i := 11) (by kernel_rfl) rfl (by kernel_rfl) (by kernel_rfl) (fun K11 hK11 => ?_)
    go_simp
    refine hK11.out _ _ ?_
    clear hK11
    try simp only [Act.put, List.getElem_toArray, List.getElem_cons_zero, List.getElem_cons_succ, List.setIfInBounds_toArray, List.set_cons_zero, List.set_cons_succ]
    refine wpAnyY_done (by kernel_rfl) ?_ _
    clear hS hSk hq
    replace g0 := g0.t ga
    replace b0 := b0.keep ga
    replace c0 := c0.keep ga
    clear ga HCP HA
    have x1 : w4.cell? ⟨w.heap.size + 1, 1, none⟩ = some (.int .i64 mi) := c0.cell 1
    have x2 : w4.cell? ⟨w.heap.size + 1, 2, none⟩ = some (.int .i64 to) := c0.cell 2
    have lx := c0.lt
    go_upto_region 4 with fail
    refine wp_region_lit ?_
    refine wpList_load35 w.heap.size 2 HIS.out rfl rfl rfl b0 ?_
    try simp only [Act.put, List.getElem_toArray, List.getElem_cons_zero, List.getElem_cons_succ, List.setIfInBounds_toArray, List.set_cons_zero, List.set_cons_succ]
    go_wp2_with (first | (go_at_call 26; refine (HB.out _ g0).mono ?_; rintro e w5 ⟨rfl, hG5⟩) | (go_at_call 7; refine (HWK.out _).mono ?_; rintro e w9 ⟨rfl, hG9⟩))
    go_ret
    exact ⟨by simp, (g0.t hG5).t hG9⟩
end Go.Proofs.YtcekdljjmfkacaaGreat
