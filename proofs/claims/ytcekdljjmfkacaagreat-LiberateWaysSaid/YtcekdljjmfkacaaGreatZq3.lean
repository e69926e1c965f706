import Derived.Test.YtcekdljjmfkacaaGreatRs
set_option linter.unusedSimpArgs false
set_option linter.unusedVariables false
namespace Go.Proofs.YtcekdljjmfkacaaGreat
open Go.RowKit Go.Shelf
attribute [local go_sem] Oper.semAt_some wide_fn wide_dep wideR_fn wideR_dep
section
variable (m0 m1 m3 m5 px py hr hours Z : Int) (ea sa : Option Addr) (el ec sn sc : Nat) (b1 b2 : Bool) (REL : Array Value) (FcP : World → Nat → Prop) (s : Sk) (w : World)
set_option maxRecDepth 100000 in
set_option maxHeartbeats 8000000 in
theorem Weather_walkI (hIs : IsRel REL) (h0 : REL[0]? = some (.int .i64 m0)) (h1 : REL[1]? = some (.int .i64 m1)) (h2 : REL[2]? = some (.slice ea el ec)) (h3 : REL[3]? = some (.int .i64 m3)) (h4 : REL[4]? = some (.slice sa sn sc)) (h5 : REL[5]? = some (.int .i64 m5)) (h15 : REL[15]? = some (.int .i64 hours))
    (hP : ∀ W, G w W → Calls Tryz.prog 49 #[.agg #[.int .i64 m0, .int .i64 m1, .slice ea el ec, .int .i64 m3, .slice sa sn sc, .int .i64 m5], .agg #[.int .i64 px, .int .i64 py]] W fun e w' => e = .returned (.bool b1) ∧ G W w') (hU : ∀ W, Calls Tryz.prog 50 #[.int .i64 hr, .int .i64 (IntKind.i64.wrap (hours - 1))] W fun e w' => e = .returned (.bool b2) ∧ G W w')
    (hQ : ∀ W, G w W → Calls Tryz.prog 48 #[.agg REL, .bool (b1 && b2)] W (QR W Z FcP)) (hK : ∀ W W' F, FcP W F → G W W' → FcP W' F)
    (hSk : ∀ W F, G w W → FcP W F → Calls Tryz.prog 51 #[.pointer (some ⟨F, 0, none⟩), .agg #[.int .i64 px, .int .i64 py, .int .i64 hr]] W fun e w' => e = .returned (.agg s.v) ∧ G W w') :
    Calls Tryz.prog 15 #[.agg REL, .agg #[.int .i64 px, .int .i64 py], .int .i64 hr] w (WePost w Z s) := by
  have HOK : Hid (∀ w', Z = 0 → G w w' → WePost w Z s (.returned (.tuple #[.agg s.v, .int .i64 0])) w') := fun w' h a => ⟨by rw [if_pos h, h], a⟩
  have HER : Hid (∀ w', Z ≠ 0 → G w w' → WePost w Z s (.returned (.tuple #[.agg sk0.v, .int .i64 Z])) w') := fun w' h a => ⟨by rw [if_neg h], a⟩
  generalize WePost w Z s = PP at *
  have HIS := Lib.hid hIs
  have HP := Lib.hid hP
  have HU := Lib.hid hU
  have HQ := Lib.hid hQ
  have HK := Lib.hid hK
  have HSK := Lib.hid hSk
  clear hIs hP hU hQ hK hSk
  obtain ⟨g0, b0, d0, r0⟩ := w3_spec6 w REL #[.int .i64 px, .int .i64 py] sk0.v 35 27 49
  go_enter Tryz.func15, Tryz.ntmps15
  go_upto_region 1 with fail
  change Code.wp _ _ _ _ (((w.alloc (.cells REL 35)).alloc (.cells #[.int .i64 px, .int .i64 py] 27)).alloc (.cells sk0.v 49))
  generalize ((w.alloc (.cells REL 35)).alloc (.cells #[.int .i64 px, .int .i64 py] 27)).alloc (.cells sk0.v 49) = w1 at *
  refine wp_region_Y (S := fun W' => Blk W' w.heap.size 35 REL ∧ Blk W' (w.heap.size + 1) 27 #[.int .i64 px, .int .i64 py]) 17 18 rfl (by kernel_rfl) ⟨b0.keep (G.rf _).d, d0.keep (G.rf _).d⟩ (fun hS => ?_)
  have ga := (G.rf w1).d
  refine wpAnyY_take (i := 0) (v := .agg REL) rfl (by kernel_rfl) (by kernel_rfl) (by kernel_rfl) (by kernel_rfl) (fun _ _ _ h => h) (Or.inl ⟨by kernel_rfl, ?_⟩) hS ?_
  · intro w' hSw; exact load46o w' w.heap.size 3 HIS.out _ _ rfl (by kernel_rfl) hSw.1
  try simp only [Act.put, List.getElem_toArray, List.getElem_cons_zero, List.getElem_cons_succ, List.setIfInBounds_toArray, List.set_cons_zero, List.set_cons_succ]
  refine wpAnyY_take (i := 1) (v := ?_) rfl (by kernel_rfl) (by kernel_rfl) (by kernel_rfl) (by kernel_rfl) (fun _ _ _ h => h) (Or.inl ⟨by kernel_rfl, ?_⟩) hS ?_
  rotate_left
  · intro w' hSw; go_simp; with_reducible rfl
  try simp only [Act.put, List.getElem_toArray, List.getElem_cons_zero, List.getElem_cons_succ, List.setIfInBounds_toArray, List.set_cons_zero, List.set_cons_succ]
  refine wpAnyY_take (i := 2) (v := ?_) rfl (by kernel_rfl) (by kernel_rfl) (by kernel_rfl) (by kernel_rfl) (fun _ _ _ h => h) (Or.inl ⟨by kernel_rfl, ?_⟩) hS ?_
  rotate_left
  · intro w' hSw; have e0 := (hSw.1.cell 0).trans h0; have e1 := (hSw.1.cell 1).trans h1; have e2 := (hSw.1.cell 2).trans h2; have e3 := (hSw.1.cell 3).trans h3; have e4 := (hSw.1.cell 4).trans h4; have e5 := (hSw.1.cell 5).trans h5; have lb := hSw.1.lt; go_simp; with_reducible rfl
  try simp only [Act.put, List.getElem_toArray, List.getElem_cons_zero, List.getElem_cons_succ, List.setIfInBounds_toArray, List.set_cons_zero, List.set_cons_succ]
  refine wpAnyY_take (i := 3) (v := ?_) rfl (by kernel_rfl) (by kernel_rfl) (by kernel_rfl) (by kernel_rfl) (fun _ _ _ h => h) (Or.inl ⟨by kernel_rfl, ?_⟩) hS ?_
  rotate_left
  · intro w' hSw; have p0 := hSw.2.cell 0; have p1 := hSw.2.cell 1; have lp := hSw.2.lt; go_simp; with_reducible rfl
  try simp only [Act.put, List.getElem_toArray, List.getElem_cons_zero, List.getElem_cons_succ, List.setIfInBounds_toArray, List.set_cons_zero, List.set_cons_succ]
  refine wpAnyY_oneSW (i := 4) (by kernel_rfl) rfl (by kernel_rfl) (fun K4 hK4 => ?_)
  go_simp
  refine (HP.out _ (g0.t ga)).mono ?_
  rintro e w2 ⟨rfl, hG4⟩
  replace ga := ga.t hG4
  refine hK4.out _ _ ⟨b0.keep ga, d0.keep ga⟩ (fun hS => ?_)
  try simp only [Act.put, List.getElem_toArray, List.getElem_cons_zero, List.getElem_cons_succ, List.setIfInBounds_toArray, List.set_cons_zero, List.set_cons_succ]
  refine wpAnyY_take (i := 5) (v := ?_) rfl (by kernel_rfl) (by kernel_rfl) (by kernel_rfl) (by kernel_rfl) (fun _ _ _ h => h) (Or.inl ⟨by kernel_rfl, ?_⟩) hS ?_
  rotate_left
  · intro w' hSw; go_simp; with_reducible rfl
  try simp only [Act.put, List.getElem_toArray, List.getElem_cons_zero, List.getElem_cons_succ, List.setIfInBounds_toArray, List.set_cons_zero, List.set_cons_succ]
  cases b1
  ·
    refine wpAnyY_take (i := 6) (v := undef) rfl (by kernel_rfl) (by kernel_rfl) (by kernel_rfl) (by kernel_rfl) (fun _ _ _ h => h) (Or.inr ⟨by kernel_rfl, rfl⟩) hS ?_
    try simp only [Act.put, List.getElem_toArray, List.getElem_cons_zero, List.getElem_cons_succ, List.setIfInBounds_toArray, List.set_cons_zero, List.set_cons_succ]
    refine wpAnyY_take (i := 7) (v := undef) rfl (by kernel_rfl) (by kernel_rfl) (by kernel_rfl) (by kernel_rfl) (fun _ _ _ h => h) (Or.inr ⟨by kernel_rfl, rfl⟩) hS ?_
    try simp only [Act.put, List.getElem_toArray, List.getElem_cons_zero, List.getElem_cons_succ, List.setIfInBounds_toArray, List.set_cons_zero, List.set_cons_succ]
    refine wpAnyY_take (i := 8) (v := undef) rfl (by kernel_rfl) (by kernel_rfl) (by kernel_rfl) (by kernel_rfl) (fun _ _ _ h => h) (Or.inr ⟨by kernel_rfl, rfl⟩) hS ?_
    try simp only [Act.put, List.getElem_toArray, List.getElem_cons_zero, List.getElem_cons_succ, List.setIfInBounds_toArray, List.set_cons_zero, List.set_cons_succ]
    refine wpAnyY_take (i := 9) (v := undef) rfl (by kernel_rfl) (by kernel_rfl) (by kernel_rfl) (by kernel_rfl) (fun _ _ _ h => h) (Or.inr ⟨by kernel_rfl, rfl⟩) hS ?_
    try simp only [Act.put, List.getElem_toArray, List.getElem_cons_zero, List.getElem_cons_succ, List.setIfInBounds_toArray, List.set_cons_zero, List.set_cons_succ]
    refine wpAnyY_take (i := 10) (v := undef) rfl (by kernel_rfl) (by kernel_rfl) (by kernel_rfl) (by kernel_rfl) (fun _ _ _ h => h) (Or.inr ⟨by kernel_rfl, rfl⟩) hS ?_
    try simp only [Act.put, List.getElem_toArray, List.getElem_cons_zero, List.getElem_cons_succ, List.setIfInBounds_toArray, List.set_cons_zero, List.set_cons_succ]
    refine wpAnyY_take (i := 11) (v := ?_) rfl (by kernel_rfl) (by kernel_rfl) (by kernel_rfl) (by kernel_rfl) (fun _ _ _ h => h) (Or.inl ⟨by kernel_rfl, ?_⟩) hS ?_
    rotate_left
    · intro w' hSw; go_simp; with_reducible rfl
    try simp only [Act.put, List.getElem_toArray, List.getElem_cons_zero, List.getElem_cons_succ, List.setIfInBounds_toArray, List.set_cons_zero, List.set_cons_succ]
    refine wpAnyY_oneSW (i := 12) (by kernel_rfl) rfl (by kernel_rfl) (fun K12 hK12 => ?_)
    go_simp
    refine (HQ.out _ (g0.t ga)).mono ?_
    rintro e w4 ⟨p, rfl, hG12, hZ⟩
    replace ga := ga.t hG12
    refine hK12.out _ _ ⟨b0.keep ga, d0.keep ga⟩ (fun hS => ?_)
    try simp only [Act.put, List.getElem_toArray, List.getElem_cons_zero, List.getElem_cons_succ, List.setIfInBounds_toArray, List.set_cons_zero, List.set_cons_succ]
    refine wpAnyY_take (i := 13) (v := ?_) rfl (by kernel_rfl) (by kernel_rfl) (by kernel_rfl) (by kernel_rfl) (fun _ _ _ h => h) (Or.inl ⟨by kernel_rfl, ?_⟩) hS ?_
    rotate_left
    · intro w' hSw; go_simp; with_reducible rfl
    try simp only [Act.put, List.getElem_toArray, List.getElem_cons_zero, List.getElem_cons_succ, List.setIfInBounds_toArray, List.set_cons_zero, List.set_cons_succ]
    refine wpAnyY_take (i := 14) (v := ?_) rfl (by kernel_rfl) (by kernel_rfl) (by kernel_rfl) (by kernel_rfl) (fun _ _ _ h => h) (Or.inl ⟨by kernel_rfl, ?_⟩) hS ?_
    rotate_left
    · intro w' hSw; go_simp; with_reducible rfl
    try simp only [Act.put, List.getElem_toArray, List.getElem_cons_zero, List.getElem_cons_succ, List.setIfInBounds_toArray, List.set_cons_zero, List.set_cons_succ]
    refine wpAnyY_take (i := 15) (v := ?_) rfl (by kernel_rfl) (by kernel_rfl) (by kernel_rfl) (by kernel_rfl) (fun _ _ _ h => h) (Or.inl ⟨by kernel_rfl, ?_⟩) hS ?_
    rotate_left
    · intro w' hSw; go_simp; with_reducible rfl
    try simp only [Act.put, List.getElem_toArray, List.getElem_cons_zero, List.getElem_cons_succ, List.setIfInBounds_toArray, List.set_cons_zero, List.set_cons_succ]
    refine wpAnyY_oneSW (i := 16) (by kernel_rfl) rfl (by kernel_rfl) (fun K16 hK16 => ?_)
    go_simp
    refine hK16.out _ _ ⟨b0.keep ga, d0.keep ga⟩ (fun hS => ?_)
    try simp only [Act.put, List.getElem_toArray, List.getElem_cons_zero, List.getElem_cons_succ, List.setIfInBounds_toArray, List.set_cons_zero, List.set_cons_succ]
    refine wpAnyY_oneW (i := 17) (by kernel_rfl) rfl (by kernel_rfl) (by kernel_rfl) (fun K17 hK17 => ?_)
    go_simp
    refine hK17.out _ _ ?_
    try simp only [Act.put, List.getElem_toArray, List.getElem_cons_zero, List.getElem_cons_succ, List.setIfInBounds_toArray, List.set_cons_zero, List.set_cons_succ]
    refine wpAnyY_done (by kernel_rfl) ?_ _
    have gz := g0.t ga
    replace d0 := d0.keep ga
    replace r0 := r0.keep ga
    clear b0 hS HP HU HQ HIS h0 h1 h2 h3 h4 h5 h15
    by_cases hz : Z = 0
    · obtain ⟨F, rfl, hfc⟩ := hZ hz
      subst hz
      have HSKz := Lib.hid (HSK.out _ F gz hfc)
      clear HSK hfc hZ HK
      have HO := Lib.hid (fun w' h => HOK.out w' rfl h)
      clear HOK HER
      have p0 := d0.cell 0
      have p1 := d0.cell 1
      have lp := d0.lt
      go_upto_region 4 with fail
      refine wp_region_lit ?_
      refine wpList_plain rfl fun K hK => ?_
      go_simp
      refine hK _ _ ?_
      clear hK
      try simp only [Act.put, List.getElem_toArray, List.getElem_cons_zero, List.getElem_cons_succ, List.setIfInBounds_toArray, List.set_cons_zero, List.set_cons_succ]
      refine wpList_plain rfl fun K hK => ?_
      go_simp
      refine hK _ _ ?_
      clear hK
      try simp only [Act.put, List.getElem_toArray, List.getElem_cons_zero, List.getElem_cons_succ, List.setIfInBounds_toArray, List.set_cons_zero, List.set_cons_succ]
      refine wpList_plain rfl fun K hK => ?_
      go_simp
      refine hK _ _ ?_
      clear hK
      try simp only [Act.put, List.getElem_toArray, List.getElem_cons_zero, List.getElem_cons_succ, List.setIfInBounds_toArray, List.set_cons_zero, List.set_cons_succ]
      refine wpList_plain rfl fun K hK => ?_
      go_simp
      refine hK _ _ ?_
      clear hK
      try simp only [Act.put, List.getElem_toArray, List.getElem_cons_zero, List.getElem_cons_succ, List.setIfInBounds_toArray, List.set_cons_zero, List.set_cons_succ]
      refine wpList_plain rfl fun K hK => ?_
      go_simp
      refine (HSKz.out).mono ?_
      rintro e w5 ⟨rfl, hG5⟩
      refine hK _ _ ?_
      clear hK K
      try simp only [Act.put, List.getElem_toArray, List.getElem_cons_zero, List.getElem_cons_succ, List.setIfInBounds_toArray, List.set_cons_zero, List.set_cons_succ]
      replace d0 := d0.keep hG5
      replace r0 := r0.keep hG5
      replace gz := gz.t hG5
      clear HSKz p0 p1 lp
      have hz : Blk (w5.alloc (.cells sk0.v 93)) w5.heap.size 93 sk0.v := Blk.new _ _ _
      have gb : G w5 (w5.alloc (.cells sk0.v 93)) := (G.rf _).a _
      have lr := r0.lt
      refine wpList_plain rfl fun K hK => ?_
      go_simp
      refine hK _ _ ?_
      clear hK
      try simp only [Act.put, List.getElem_toArray, List.getElem_cons_zero, List.getElem_cons_succ, List.setIfInBounds_toArray, List.set_cons_zero, List.set_cons_succ]
      refine wpList_store102 w5.heap.size 10 35 rfl rfl rfl rfl hz fun W2 hB2 hF2 hG2 => ?_
      have g52 := hG2 w5 (Nat.le_refl _) gb
      replace r0 := r0.keep g52
      replace gz := gz.t g52
      clear hF2 hG2 hz gb g52 d0
      obtain ⟨gA, hgA⟩ : ∃ gA, gA = w5.heap.size := ⟨_, rfl⟩
      rw [← hgA] at hB2 ⊢
      have hneA : w.heap.size + 1 + 1 ≠ gA := by omega
      clear hgA lr
      try simp only [Act.put, List.getElem_toArray, List.getElem_cons_zero, List.getElem_cons_succ, List.setIfInBounds_toArray, List.set_cons_zero, List.set_cons_succ]
      obtain ⟨x0, x1, x2, x3, x4, x5⟩ := s
      have c0 : W2.cell? ⟨gA, 0, none⟩ = some (.int .i64 x0) := hB2.cell 0
      have c1 : W2.cell? ⟨gA, 1, none⟩ = some (.int .i64 x1) := hB2.cell 1
      have c2 : W2.cell? ⟨gA, 2, none⟩ = some (.int .i64 x2) := hB2.cell 2
      have c3 : W2.cell? ⟨gA, 3, none⟩ = some (.int .i64 x3) := hB2.cell 3
      have c4 : W2.cell? ⟨gA, 4, none⟩ = some (.int .i64 x4) := hB2.cell 4
      have c5 : W2.cell? ⟨gA, 5, none⟩ = some (.int .i64 x5) := hB2.cell 5
      have lA := hB2.lt
      have q0 : W2.cell? ⟨w.heap.size + 1 + 1, 0, none⟩ = some (.int .i64 0) := r0.cell 0; have q1 : W2.cell? ⟨w.heap.size + 1 + 1, 1, none⟩ = some (.int .i64 0) := r0.cell 1; have q2 : W2.cell? ⟨w.heap.size + 1 + 1, 2, none⟩ = some (.int .i64 0) := r0.cell 2; have q3 : W2.cell? ⟨w.heap.size + 1 + 1, 3, none⟩ = some (.int .i64 0) := r0.cell 3; have q4 : W2.cell? ⟨w.heap.size + 1 + 1, 4, none⟩ = some (.int .i64 0) := r0.cell 4; have q5 : W2.cell? ⟨w.heap.size + 1 + 1, 5, none⟩ = some (.int .i64 0) := r0.cell 5
      have z0 := r0.frozen 0; have z1 := r0.frozen 1; have z2 := r0.frozen 2; have z3 := r0.frozen 3; have z4 := r0.frozen 4; have z5 := r0.frozen 5
      have lr := r0.lt
      have hB6 : Blk (W6 W2 (w.heap.size + 1 + 1) (.int .i64 x0) (.int .i64 x1) (.int .i64 x2) (.int .i64 x3) (.int .i64 x4) (.int .i64 x5)) (w.heap.size + 1 + 1) 49 (Sk.mk x0 x1 x2 x3 x4 x5).v := W6_blk r0 _ _ _ _ _ _
      have hg6 := W6_G (W := W2) (w0 := w) (g := w.heap.size + 1 + 1) (by omega) gz (.int .i64 x0) (.int .i64 x1) (.int .i64 x2) (.int .i64 x3) (.int .i64 x4) (.int .i64 x5)
      have HF := Lib.hid (HO.out _ hg6)
      have HB6 := Lib.hid hB6
      clear hB6 hg6 HO
      go_wp2
      exact bodyPost_ret (res19 _ _ (w.heap.size + 1 + 1) (Sk.mk x0 x1 x2 x3 x4 x5) 0 rfl rfl HB6.out) rfl HF.out
    · have hz1 : (Z == 0) = false := by simpa using hz
      have hz2 : (Z != 0) = true := by simpa using hz
      have hB6 : Blk (W6 w4 (w.heap.size + 1 + 1) (.int .i64 0) (.int .i64 0) (.int .i64 0) (.int .i64 0) (.int .i64 0) (.int .i64 0)) (w.heap.size + 1 + 1) 49 sk0.v := W6_blk r0 _ _ _ _ _ _
      have hg6 := W6_G (W := w4) (w0 := w) (g := w.heap.size + 1 + 1) (by omega) gz (.int .i64 0) (.int .i64 0) (.int .i64 0) (.int .i64 0) (.int .i64 0) (.int .i64 0)
      have HF := Lib.hid (HER.out _ hz hg6)
      have HB6 := Lib.hid hB6
      have q0 : w4.cell? ⟨w.heap.size + 1 + 1, 0, none⟩ = some (.int .i64 0) := r0.cell 0; have q1 : w4.cell? ⟨w.heap.size + 1 + 1, 1, none⟩ = some (.int .i64 0) := r0.cell 1; have q2 : w4.cell? ⟨w.heap.size + 1 + 1, 2, none⟩ = some (.int .i64 0) := r0.cell 2; have q3 : w4.cell? ⟨w.heap.size + 1 + 1, 3, none⟩ = some (.int .i64 0) := r0.cell 3; have q4 : w4.cell? ⟨w.heap.size + 1 + 1, 4, none⟩ = some (.int .i64 0) := r0.cell 4; have q5 : w4.cell? ⟨w.heap.size + 1 + 1, 5, none⟩ = some (.int .i64 0) := r0.cell 5
      have z0 := r0.frozen 0; have z1 := r0.frozen 1; have z2 := r0.frozen 2; have z3 := r0.frozen 3; have z4 := r0.frozen 4; have z5 := r0.frozen 5
      have lr := r0.lt
      clear hB6 hg6 HOK HER HSK hZ HK hz
      go_wp2
      exact bodyPost_ret (res19 _ _ (w.heap.size + 1 + 1) sk0 Z rfl rfl HB6.out) rfl HF.out
  ·
    refine wpAnyY_take (i := 6) (v := ?_) rfl (by kernel_rfl) (by kernel_rfl) (by kernel_rfl) (by kernel_rfl) (fun _ _ _ h => h) (Or.inl ⟨by kernel_rfl, ?_⟩) hS ?_
    rotate_left
    · intro w' hSw; go_simp; with_reducible rfl
    try simp only [Act.put, List.getElem_toArray, List.getElem_cons_zero, List.getElem_cons_succ, List.setIfInBounds_toArray, List.set_cons_zero, List.set_cons_succ]
    refine wpAnyY_take (i := 7) (v := ?_) rfl (by kernel_rfl) (by kernel_rfl) (by kernel_rfl) (by kernel_rfl) (fun _ _ _ h => h) (Or.inl ⟨by kernel_rfl, ?_⟩) hS ?_
    rotate_left
    · intro w' hSw; go_simp; with_reducible rfl
    try simp only [Act.put, List.getElem_toArray, List.getElem_cons_zero, List.getElem_cons_succ, List.setIfInBounds_toArray, List.set_cons_zero, List.set_cons_succ]
    refine wpAnyY_take (i := 8) (v := ?_) rfl (by kernel_rfl) (by kernel_rfl) (by kernel_rfl) (by kernel_rfl) (fun _ _ _ h => h) (Or.inl ⟨by kernel_rfl, ?_⟩) hS ?_
    rotate_left
    · intro w' hSw; have e15 := (hSw.1.cell 15).trans h15; have lb := hSw.1.lt; go_simp; with_reducible rfl
    try simp only [Act.put, List.getElem_toArray, List.getElem_cons_zero, List.getElem_cons_succ, List.setIfInBounds_toArray, List.set_cons_zero, List.set_cons_succ]
    refine wpAnyY_take (i := 9) (v := ?_) rfl (by kernel_rfl) (by kernel_rfl) (by kernel_rfl) (by kernel_rfl) (fun _ _ _ h => h) (Or.inl ⟨by kernel_rfl, ?_⟩) hS ?_
    rotate_left
    · intro w' hSw; go_simp; with_reducible rfl
    try simp only [Act.put, List.getElem_toArray, List.getElem_cons_zero, List.getElem_cons_succ, List.setIfInBounds_toArray, List.set_cons_zero, List.set_cons_succ]
    refine wpAnyY_oneSW (i := 10) (by kernel_rfl) rfl (by kernel_rfl) (fun K10 hK10 => ?_)
    go_simp
    refine (HU.out _).mono ?_
    rintro e w3 ⟨rfl, hG10⟩
    replace ga := ga.t hG10
    refine hK10.out _ _ ⟨b0.keep ga, d0.keep ga⟩ (fun hS => ?_)
    try simp only [Act.put, List.getElem_toArray, List.getElem_cons_zero, List.getElem_cons_succ, List.setIfInBounds_toArray, List.set_cons_zero, List.set_cons_succ]
    refine wpAnyY_take (i := 11) (v := ?_) rfl (by kernel_rfl) (by kernel_rfl) (by kernel_rfl) (by kernel_rfl) (fun _ _ _ h => h) (Or.inl ⟨by kernel_rfl, ?_⟩) hS ?_
    rotate_left
    · intro w' hSw; go_simp; with_reducible rfl
    try simp only [Act.put, List.getElem_toArray, List.getElem_cons_zero, List.getElem_cons_succ, List.setIfInBounds_toArray, List.set_cons_zero, List.set_cons_succ]
    refine wpAnyY_oneSW (i := 12) (by kernel_rfl) rfl (by kernel_rfl) (fun K12 hK12 => ?_)
    go_simp
    refine (HQ.out _ (g0.t ga)).mono ?_
    rintro e w4 ⟨p, rfl, hG12, hZ⟩
    replace ga := ga.t hG12
    refine hK12.out _ _ ⟨b0.keep ga, d0.keep ga⟩ (fun hS => ?_)
    try simp only [Act.put, List.getElem_toArray, List.getElem_cons_zero, List.getElem_cons_succ, List.setIfInBounds_toArray, List.set_cons_zero, List.set_cons_succ]
    refine wpAnyY_take (i := 13) (v := ?_) rfl (by kernel_rfl) (by kernel_rfl) (by kernel_rfl) (by kernel_rfl) (fun _ _ _ h => h) (Or.inl ⟨by kernel_rfl, ?_⟩) hS ?_
    rotate_left
    · intro w' hSw; go_simp; with_reducible rfl
    try simp only [Act.put, List.getElem_toArray, List.getElem_cons_zero, List.getElem_cons_succ, List.setIfInBounds_toArray, List.set_cons_zero, List.set_cons_succ]
    refine wpAnyY_take (i := 14) (v := ?_) rfl (by kernel_rfl) (by kernel_rfl) (by kernel_rfl) (by kernel_rfl) (fun _ _ _ h => h) (Or.inl ⟨by kernel_rfl, ?_⟩) hS ?_
    rotate_left
    · intro w' hSw; go_simp; with_reducible rfl
    try simp only [Act.put, List.getElem_toArray, List.getElem_cons_zero, List.getElem_cons_succ, List.setIfInBounds_toArray, List.set_cons_zero, List.set_cons_succ]
    refine wpAnyY_take (i := 15) (v := ?_) rfl (by kernel_rfl) (by kernel_rfl) (by kernel_rfl) (by kernel_rfl) (fun _ _ _ h => h) (Or.inl ⟨by kernel_rfl, ?_⟩) hS ?_
    rotate_left
    · intro w' hSw; go_simp; with_reducible rfl
    try simp only [Act.put, List.getElem_toArray, List.getElem_cons_zero, List.getElem_cons_succ, List.setIfInBounds_toArray, List.set_cons_zero, List.set_cons_succ]
    refine wpAnyY_oneSW (i := 16) (by kernel_rfl) rfl (by kernel_rfl) (fun K16 hK16 => ?_)
    go_simp
    refine hK16.out _ _ ⟨b0.keep ga, d0.keep ga⟩ (fun hS => ?_)
    try simp only [Act.put, List.getElem_toArray, List.getElem_cons_zero, List.getElem_cons_succ, List.setIfInBounds_toArray, List.set_cons_zero, List.set_cons_succ]
    refine wpAnyY_oneW (i := 17) (by kernel_rfl) rfl (by kernel_rfl) (by kernel_rfl) (fun K17 hK17 => ?_)
    go_simp
    refine hK17.out _ _ ?_
    try simp only [Act.put, List.getElem_toArray, List.getElem_cons_zero, List.getElem_cons_succ, List.setIfInBounds_toArray, List.set_cons_zero, List.set_cons_succ]
    refine wpAnyY_done (by kernel_rfl) ?_ _
    have gz := g0.t ga
    replace d0 := d0.keep ga
    replace r0 := r0.keep ga
    clear b0 hS HP HU HQ HIS h0 h1 h2 h3 h4 h5 h15
    by_cases hz : Z = 0
    · obtain ⟨F, rfl, hfc⟩ := hZ hz
      subst hz
      have HSKz := Lib.hid (HSK.out _ F gz hfc)
      clear HSK hfc hZ HK
      have HO := Lib.hid (fun w' h => HOK.out w' rfl h)
      clear HOK HER
      have p0 := d0.cell 0
      have p1 := d0.cell 1
      have lp := d0.lt
      go_upto_region 4 with fail
      refine wp_region_lit ?_
      refine wpList_plain rfl fun K hK => ?_
      go_simp
      refine hK _ _ ?_
      clear hK
      try simp only [Act.put, List.getElem_toArray, List.getElem_cons_zero, List.getElem_cons_succ, List.setIfInBounds_toArray, List.set_cons_zero, List.set_cons_succ]
      refine wpList_plain rfl fun K hK => ?_
      go_simp
      refine hK _ _ ?_
      clear hK
      try simp only [Act.put, List.getElem_toArray, List.getElem_cons_zero, List.getElem_cons_succ, List.setIfInBounds_toArray, List.set_cons_zero, List.set_cons_succ]
      refine wpList_plain rfl fun K hK => ?_
      go_simp
      refine hK _ _ ?_
      clear hK
      try simp only [Act.put, List.getElem_toArray, List.getElem_cons_zero, List.getElem_cons_succ, List.setIfInBounds_toArray, List.set_cons_zero, List.set_cons_succ]
      refine wpList_plain rfl fun K hK => ?_
      go_simp
      refine hK _ _ ?_
      clear hK
      try simp only [Act.put, List.getElem_toArray, List.getElem_cons_zero, List.getElem_cons_succ, List.setIfInBounds_toArray, List.set_cons_zero, List.set_cons_succ]
      refine wpList_plain rfl fun K hK => ?_
      go_simp
      refine (HSKz.out).mono ?_
      rintro e w5 ⟨rfl, hG5⟩
      refine hK _ _ ?_
      clear hK K
      try simp only [Act.put, List.getElem_toArray, List.getElem_cons_zero, List.getElem_cons_succ, List.setIfInBounds_toArray, List.set_cons_zero, List.set_cons_succ]
      replace d0 := d0.keep hG5
      replace r0 := r0.keep hG5
      replace gz := gz.t hG5
      clear HSKz p0 p1 lp
      have hz : Blk (w5.alloc (.cells sk0.v 93)) w5.heap.size 93 sk0.v := Blk.new _ _ _
      have gb : G w5 (w5.alloc (.cells sk0.v 93)) := (G.rf _).a _
      have lr := r0.lt
      refine wpList_plain rfl fun K hK => ?_
      go_simp
      refine hK _ _ ?_
      clear hK
      try simp only [Act.put, List.getElem_toArray, List.getElem_cons_zero, List.getElem_cons_succ, List.setIfInBounds_toArray, List.set_cons_zero, List.set_cons_succ]
      refine wpList_store102 w5.heap.size 10 35 rfl rfl rfl rfl hz fun W2 hB2 hF2 hG2 => ?_
      have g52 := hG2 w5 (Nat.le_refl _) gb
      replace r0 := r0.keep g52
      replace gz := gz.t g52
      clear hF2 hG2 hz gb g52 d0
      obtain ⟨gA, hgA⟩ : ∃ gA, gA = w5.heap.size := ⟨_, rfl⟩
      rw [← hgA] at hB2 ⊢
      have hneA : w.heap.size + 1 + 1 ≠ gA := by omega
      clear hgA lr
      try simp only [Act.put, List.getElem_toArray, List.getElem_cons_zero, List.getElem_cons_succ, List.setIfInBounds_toArray, List.set_cons_zero, List.set_cons_succ]
      obtain ⟨x0, x1, x2, x3, x4, x5⟩ := s
      have c0 : W2.cell? ⟨gA, 0, none⟩ = some (.int .i64 x0) := hB2.cell 0
      have c1 : W2.cell? ⟨gA, 1, none⟩ = some (.int .i64 x1) := hB2.cell 1
      have c2 : W2.cell? ⟨gA, 2, none⟩ = some (.int .i64 x2) := hB2.cell 2
      have c3 : W2.cell? ⟨gA, 3, none⟩ = some (.int .i64 x3) := hB2.cell 3
      have c4 : W2.cell? ⟨gA, 4, none⟩ = some (.int .i64 x4) := hB2.cell 4
      have c5 : W2.cell? ⟨gA, 5, none⟩ = some (.int .i64 x5) := hB2.cell 5
      have lA := hB2.lt
      have q0 : W2.cell? ⟨w.heap.size + 1 + 1, 0, none⟩ = some (.int .i64 0) := r0.cell 0; have q1 : W2.cell? ⟨w.heap.size + 1 + 1, 1, none⟩ = some (.int .i64 0) := r0.cell 1; have q2 : W2.cell? ⟨w.heap.size + 1 + 1, 2, none⟩ = some (.int .i64 0) := r0.cell 2; have q3 : W2.cell? ⟨w.heap.size + 1 + 1, 3, none⟩ = some (.int .i64 0) := r0.cell 3; have q4 : W2.cell? ⟨w.heap.size + 1 + 1, 4, none⟩ = some (.int .i64 0) := r0.cell 4; have q5 : W2.cell? ⟨w.heap.size + 1 + 1, 5, none⟩ = some (.int .i64 0) := r0.cell 5
      have z0 := r0.frozen 0; have z1 := r0.frozen 1; have z2 := r0.frozen 2; have z3 := r0.frozen 3; have z4 := r0.frozen 4; have z5 := r0.frozen 5
      have lr := r0.lt
      have hB6 : Blk (W6 W2 (w.heap.size + 1 + 1) (.int .i64 x0) (.int .i64 x1) (.int .i64 x2) (.int .i64 x3) (.int .i64 x4) (.int .i64 x5)) (w.heap.size + 1 + 1) 49 (Sk.mk x0 x1 x2 x3 x4 x5).v := W6_blk r0 _ _ _ _ _ _
      have hg6 := W6_G (W := W2) (w0 := w) (g := w.heap.size + 1 + 1) (by omega) gz (.int .i64 x0) (.int .i64 x1) (.int .i64 x2) (.int .i64 x3) (.int .i64 x4) (.int .i64 x5)
      have HF := Lib.hid (HO.out _ hg6)
      have HB6 := Lib.hid hB6
      clear hB6 hg6 HO
      go_wp2
      exact bodyPost_ret (res19 _ _ (w.heap.size + 1 + 1) (Sk.mk x0 x1 x2 x3 x4 x5) 0 rfl rfl HB6.out) rfl HF.out
    · have hz1 : (Z == 0) = false := by simpa using hz
      have hz2 : (Z != 0) = true := by simpa using hz
      have hB6 : Blk (W6 w4 (w.heap.size + 1 + 1) (.int .i64 0) (.int .i64 0) (.int .i64 0) (.int .i64 0) (.int .i64 0) (.int .i64 0)) (w.heap.size + 1 + 1) 49 sk0.v := W6_blk r0 _ _ _ _ _ _
      have hg6 := W6_G (W := w4) (w0 := w) (g := w.heap.size + 1 + 1) (by omega) gz (.int .i64 0) (.int .i64 0) (.int .i64 0) (.int .i64 0) (.int .i64 0) (.int .i64 0)
      have HF := Lib.hid (HER.out _ hz hg6)
      have HB6 := Lib.hid hB6
      have q0 : w4.cell? ⟨w.heap.size + 1 + 1, 0, none⟩ = some (.int .i64 0) := r0.cell 0; have q1 : w4.cell? ⟨w.heap.size + 1 + 1, 1, none⟩ = some (.int .i64 0) := r0.cell 1; have q2 : w4.cell? ⟨w.heap.size + 1 + 1, 2, none⟩ = some (.int .i64 0) := r0.cell 2; have q3 : w4.cell? ⟨w.heap.size + 1 + 1, 3, none⟩ = some (.int .i64 0) := r0.cell 3; have q4 : w4.cell? ⟨w.heap.size + 1 + 1, 4, none⟩ = some (.int .i64 0) := r0.cell 4; have q5 : w4.cell? ⟨w.heap.size + 1 + 1, 5, none⟩ = some (.int .i64 0) := r0.cell 5
      have z0 := r0.frozen 0; have z1 := r0.frozen 1; have z2 := r0.frozen 2; have z3 := r0.frozen 3; have z4 := r0.frozen 4; have z5 := r0.frozen 5
      have lr := r0.lt
      clear hB6 hg6 HOK HER HSK hZ HK hz
      go_wp2
      exact bodyPost_ret (res19 _ _ (w.heap.size + 1 + 1) sk0 Z rfl rfl HB6.out) rfl HF.out
end
end Go.Proofs.YtcekdljjmfkacaaGreat
