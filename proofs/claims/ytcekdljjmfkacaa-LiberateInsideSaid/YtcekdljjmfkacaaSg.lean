import Derived.Test.YtcekdljjmfkacaaSa
import Derived.Test.YtcekdljjmfkacaaOe
import Derived.Test.YtcekdljjmfkacaaSj
import Derived.Test.YtcekdljjmfkacaaQh
import Derived.Test.YtcekdljjmfkacaaOg
set_option linter.unusedSimpArgs false
set_option linter.unusedVariables false
namespace Go.Proofs.Ytcekdljjmfkacaa
open Go.RowKit Go.Shelf
attribute [local go_sem] Oper.semAt_some wide_fn wide_dep wideR_fn wideR_dep
/-- what Weather tells: a sky, or an error -/
def WePost (w : World) (Z : Int) (s : Sk) (e : Ending) (w' : World) : Prop := e = .returned (.tuple #[.agg (if Z = 0 then s.v else sk0.v), .int .i64 Z]) ∧ G w w'
theorem res19 (tmps : Array Value) (w : World) (g : Nat) (s : Sk) (z : Int) (h6 : tmps.getD 6 undef = .pointer (some ⟨g, 0, none⟩)) (h7 : tmps.getD 7 undef = .int .i64 z) (hB : Blk w g 55 s.v) :
    (results Try.f19 tmps).run Try.prog w = .ok (.tuple #[.agg s.v, .int .i64 z]) w := by
  obtain ⟨x0, x1, x2, x3, x4, x5⟩ := s
  have c0 : w.cell? ⟨g, 0, none⟩ = some (.int .i64 x0) := hB.cell 0
  have c1 : w.cell? ⟨g, 1, none⟩ = some (.int .i64 x1) := hB.cell 1
  have c2 : w.cell? ⟨g, 2, none⟩ = some (.int .i64 x2) := hB.cell 2
  have c3 : w.cell? ⟨g, 3, none⟩ = some (.int .i64 x3) := hB.cell 3
  have c4 : w.cell? ⟨g, 4, none⟩ = some (.int .i64 x4) := hB.cell 4
  have c5 : w.cell? ⟨g, 5, none⟩ = some (.int .i64 x5) := hB.cell 5
  clear hB
  have hr : Try.f19.results = #[.cell 6 55, .tmp 7] := rfl
  have h6' : tmps[6]?.getD undef = .pointer (some ⟨g, 0, none⟩) := by simpa using h6
  have h7' : tmps[7]?.getD undef = .int .i64 z := by simpa using h7
  show _ = Result.ok (Value.tuple #[Value.agg #[.int .i64 x0, .int .i64 x1, .int .i64 x2, .int .i64 x3, .int .i64 x4, .int .i64 x5], .int .i64 z]) w
  simp only [results, hr]
  go_simp
section
variable (m0 m1 m3 m5 px py hr hours Z : Int) (ea sa : Option Addr) (el ec sn sc : Nat) (b1 b2 : Bool) (REL : Array Value) (FcP : World → Nat → Prop) (s : Sk) (w : World)
set_option maxRecDepth 100000 in
set_option maxHeartbeats 8000000 in
theorem Weather_walk (hIs : IsRel REL) (h0 : REL[0]? = some (.int .i64 m0)) (h1 : REL[1]? = some (.int .i64 m1)) (h2 : REL[2]? = some (.slice ea el ec)) (h3 : REL[3]? = some (.int .i64 m3)) (h4 : REL[4]? = some (.slice sa sn sc)) (h5 : REL[5]? = some (.int .i64 m5)) (h15 : REL[15]? = some (.int .i64 hours)) (hhb : 1 ≤ hours ∧ hours ≤ 12)
    (hP : ∀ W, G w W → Calls Try.prog 44 #[.agg #[.int .i64 m0, .int .i64 m1, .slice ea el ec, .int .i64 m3, .slice sa sn sc, .int .i64 m5], .agg #[.int .i64 px, .int .i64 py]] W fun e w' => e = .returned (.bool b1) ∧ G W w') (hU : ∀ W, Calls Try.prog 45 #[.int .i64 hr, .int .i64 (hours - 1)] W fun e w' => e = .returned (.bool b2) ∧ G W w')
    (hQ : ∀ W, G w W → Calls Try.prog 42 #[.agg REL, .bool (b1 && b2)] W (QR W Z FcP)) (hK : ∀ W W' F, FcP W F → G W W' → FcP W' F)
    (hSk : ∀ W F, G w W → FcP W F → Calls Try.prog 46 #[.pointer (some ⟨F, 0, none⟩), .agg #[.int .i64 px, .int .i64 py, .int .i64 hr]] W fun e w' => e = .returned (.agg s.v) ∧ G W w') :
    Calls Try.prog 19 #[.agg REL, .agg #[.int .i64 px, .int .i64 py], .int .i64 hr] w (WePost w Z s) := by
  have HOK : Hid (∀ w', Z = 0 → G w w' → WePost w Z s (.returned (.tuple #[.agg s.v, .int .i64 0])) w') := fun w' h a => ⟨by rw [if_pos h, h], a⟩
  have HER : Hid (∀ w', Z ≠ 0 → G w w' → WePost w Z s (.returned (.tuple #[.agg sk0.v, .int .i64 Z])) w') := fun w' h a => ⟨by rw [if_neg h], a⟩
  generalize WePost w Z s = PP at *
  have HIS := Lib.hid hIs
  have HP := Lib.hid hP
  have HU := Lib.hid hU
  have HQ := Lib.hid hQ
  have HK := Lib.hid hK
  have HSK := Lib.hid hSk
  clear hIs hP hU hQ hK hSk
  have xh : IntKind.i64.wrap (hours - 1) = hours - 1 := IntWalk.i64_in _ (by omega)
  obtain ⟨g0, b0, d0, r0⟩ := w3_spec6 w REL #[.int .i64 px, .int .i64 py] sk0.v 35 27 55
  go_enter Try.func19, Try.ntmps19
  go_upto_region 1 with fail
  change Code.wp _ _ _ _ (((w.alloc (.cells REL 35)).alloc (.cells #[.int .i64 px, .int .i64 py] 27)).alloc (.cells sk0.v 55))
  generalize ((w.alloc (.cells REL 35)).alloc (.cells #[.int .i64 px, .int .i64 py] 27)).alloc (.cells sk0.v 55) = w1 at *
  refine wp_region_Y (S := fun W' => Blk W' w.heap.size 35 REL ∧ Blk W' (w.heap.size + 1) 27 #[.int .i64 px, .int .i64 py]) 17 18 rfl (by kernel_rfl) ⟨b0.keep (G.rf _).d, d0.keep (G.rf _).d⟩ (fun hS => ?_)
  have ga := (G.rf w1).d
  refine wpAnyY_take (i := 0) (v := .agg REL) rfl (by kernel_rfl) (by kernel_rfl) (by kernel_rfl) (by kernel_rfl) (fun _ _ _ h => h) (Or.inl ⟨by kernel_rfl, ?_⟩) hS ?_
  · intro w' hSw; exact load46o w' w.heap.size 3 HIS.out _ _ rfl (by kernel_rfl) hSw.1
  try simp only [Act.put, List.getElem_toArray, List.getElem_cons_zero, List.getElem_cons_succ, List.setIfInBounds_toArray, List.set_cons_zero, List.set_cons_succ]
  refine wpAnyY_take (i := 1) (v := ?_) rfl (by kernel_rfl) (by kernel_rfl) (by kernel_rfl) (by kernel_rfl) (fun _ _ _ h => h) (Or.inl ⟨by kernel_rfl, ?_⟩) hS ?_
  rotate_left
  · intro w' hSw; go_simp; with_reducible rfl
  try simp only [Act.put, List.getElem_toArray, List.getElem_cons_zero, List.getElem_cons_succ, List.setIfInBounds_toArray, List.set_cons_zero, List.set_cons_succ]
  refine wpAnyY_take (i := 2) (v := ?_) rfl (by kernel_rfl) (by kernel_rfl) (by kernel_rfl) (by kernel_rfl) (fun _ _ _ h => h) (Or.inl ⟨by kernel_rfl, ?_⟩) hS ?_
  rotate_left
  · intro w' hSw; have e0 := (hSw.1.cell 0).trans h0; have e1 := (hSw.1.cell 1).trans h1; have e2 := (hSw.1.cell 2).trans h2; have e3 := (hSw.1.cell 3).trans h3; have e4 := (hSw.1.cell 4).trans h4; have e5 := (hSw.1.cell 5).trans h5; have lb := hSw.1.lt; go_simp; with_reducible rfl
  try simp only [Act.put, List.getElem_toArray, List.getElem_cons_zero, List.getElem_cons_succ, List.setIfInBounds_toArray, List.set_cons_zero, List.set_cons_succ]
  refine wpAnyY_take (i := 3) (v := ?_) rfl (by kernel_rfl) (by kernel_rfl) (by kernel_rfl) (by kernel_rfl) (fun _ _ _ h => h) (Or.inl ⟨by kernel_rfl, ?_⟩) hS ?_
  rotate_left
  · intro w' hSw; have p0 := hSw.2.cell 0; have p1 := hSw.2.cell 1; have lp := hSw.2.lt; go_simp; with_reducible rfl
  try simp only [Act.put, List.getElem_toArray, List.getElem_cons_zero, List.getElem_cons_succ, List.setIfInBounds_toArray, List.set_cons_zero, List.set_cons_succ]
  refine wpAnyY_oneSW (i := 4) (by kernel_rfl) rfl (by kernel_rfl) (fun K4 hK4 => ?_)
  go_simp
  refine (HP.out _ (g0.t ga)).mono ?_
  rintro e w2 ⟨rfl, hG4⟩
  replace ga := ga.t hG4
  refine hK4.out _ _ ⟨b0.keep ga, d0.keep ga⟩ (fun hS => ?_)
  try simp only [Act.put, List.getElem_toArray, List.getElem_cons_zero, List.getElem_cons_succ, List.setIfInBounds_toArray, List.set_cons_zero, List.set_cons_succ]
  refine wpAnyY_take (i := 5) (v := ?_) rfl (by kernel_rfl) (by kernel_rfl) (by kernel_rfl) (by kernel_rfl) (fun _ _ _ h => h) (Or.inl ⟨by kernel_rfl, ?_⟩) hS ?_
  rotate_left
  · intro w' hSw; go_simp; with_reducible rfl
  try simp only [Act.put, List.getElem_toArray, List.getElem_cons_zero, List.getElem_cons_succ, List.setIfInBounds_toArray, List.set_cons_zero, List.set_cons_succ]
  cases b1
  ·
    refine wpAnyY_take (i := 6) (v := undef) rfl (by kernel_rfl) (by kernel_rfl) (by kernel_rfl) (by kernel_rfl) (fun _ _ _ h => h) (Or.inr ⟨by kernel_rfl, rfl⟩) hS ?_
    try simp only [Act.put, List.getElem_toArray, List.getElem_cons_zero, List.getElem_cons_succ, List.setIfInBounds_toArray, List.set_cons_zero, List.set_cons_succ]
    refine wpAnyY_take (i := 7) (v := undef) rfl (by kernel_rfl) (by kernel_rfl) (by kernel_rfl) (by kernel_rfl) (fun _ _ _ h => h) (Or.inr ⟨by kernel_rfl, rfl⟩) hS ?_
    try simp only [Act.put, List.getElem_toArray, List.getElem_cons_zero, List.getElem_cons_succ, List.setIfInBounds_toArray, List.set_cons_zero, List.set_cons_succ]
    refine wpAnyY_take (i := 8) (v := undef) rfl (by kernel_rfl) (by kernel_rfl) (by kernel_rfl) (by kernel_rfl) (fun _ _ _ h => h) (Or.inr ⟨by kernel_rfl, rfl⟩) hS ?_
    try simp only [Act.put, List.getElem_toArray, List.getElem_cons_zero, List.getElem_cons_succ, List.setIfInBounds_toArray, List.set_cons_zero, List.set_cons_succ]
    refine wpAnyY_take (i := 9) (v := undef) rfl (by kernel_rfl) (by kernel_rfl) (by kernel_rfl) (by kernel_rfl) (fun _ _ _ h => h) (Or.inr ⟨by kernel_rfl, rfl⟩) hS ?_
    try simp only [Act.put, List.getElem_toArray, List.getElem_cons_zero, List.getElem_cons_succ, List.setIfInBounds_toArray, List.set_cons_zero, List.set_cons_succ]
    refine wpAnyY_take (i := 10) (v := undef) rfl (by kernel_rfl) (by kernel_rfl) (by kernel_rfl) (by kernel_rfl) (fun _ _ _ h => h) (Or.inr ⟨by kernel_rfl, rfl⟩) hS ?_
    try simp only [Act.put, List.getElem_toArray, List.getElem_cons_zero, List.getElem_cons_succ, List.setIfInBounds_toArray, List.set_cons_zero, List.set_cons_succ]
    refine wpAnyY_take (i := 11) (v := ?_) rfl (by kernel_rfl) (by kernel_rfl) (by kernel_rfl) (by kernel_rfl) (fun _ _ _ h => h) (Or.inl ⟨by kernel_rfl, ?_⟩) hS ?_
    rotate_left
    · intro w' hSw; go_simp; with_reducible rfl
    try simp only [Act.put, List.getElem_toArray, List.getElem_cons_zero, List.getElem_cons_succ, List.setIfInBounds_toArray, List.set_cons_zero, List.set_cons_succ]
    refine wpAnyY_oneSW (i := 12) (by kernel_rfl) rfl (by kernel_rfl) (fun K12 hK12 => ?_)
    go_simp
    refine (HQ.out _ (g0.t ga)).mono ?_
    rintro e w4 ⟨p, rfl, hG12, hZ⟩
    replace ga := ga.t hG12
    refine hK12.out _ _ ⟨b0.keep ga, d0.keep ga⟩ (fun hS => ?_)
    try simp only [Act.put, List.getElem_toArray, List.getElem_cons_zero, List.getElem_cons_succ, List.setIfInBounds_toArray, List.set_cons_zero, List.set_cons_succ]
    refine wpAnyY_take (i := 13) (v := ?_) rfl (by kernel_rfl) (by kernel_rfl) (by kernel_rfl) (by kernel_rfl) (fun _ _ _ h => h) (Or.inl ⟨by kernel_rfl, ?_⟩) hS ?_
    rotate_left
    · intro w' hSw; go_simp; with_reducible rfl
    try simp only [Act.put, List.getElem_toArray, List.getElem_cons_zero, List.getElem_cons_succ, List.setIfInBounds_toArray, List.set_cons_zero, List.set_cons_succ]
    refine wpAnyY_take (i := 14) (v := ?_) rfl (by kernel_rfl) (by kernel_rfl) (by kernel_rfl) (by kernel_rfl) (fun _ _ _ h => h) (Or.inl ⟨by kernel_rfl, ?_⟩) hS ?_
    rotate_left
    · intro w' hSw; go_simp; with_reducible rfl
    try simp only [Act.put, List.getElem_toArray, List.getElem_cons_zero, List.getElem_cons_succ, List.setIfInBounds_toArray, List.set_cons_zero, List.set_cons_succ]
    refine wpAnyY_take (i := 15) (v := ?_) rfl (by kernel_rfl) (by kernel_rfl) (by kernel_rfl) (by kernel_rfl) (fun _ _ _ h => h) (Or.inl ⟨by kernel_rfl, ?_⟩) hS ?_
    rotate_left
    · intro w' hSw; go_simp; with_reducible rfl
    try simp only [Act.put, List.getElem_toArray, List.getElem_cons_zero, List.getElem_cons_succ, List.setIfInBounds_toArray, List.set_cons_zero, List.set_cons_succ]
    refine wpAnyY_oneSW (i := 16) (by kernel_rfl) rfl (by kernel_rfl) (fun K16 hK16 => ?_)
    go_simp
    refine hK16.out _ _ ⟨b0.keep ga, d0.keep ga⟩ (fun hS => ?_)
    try simp only [Act.put, List.getElem_toArray, List.getElem_cons_zero, List.getElem_cons_succ, List.setIfInBounds_toArray, List.set_cons_zero, List.set_cons_succ]
    refine wpAnyY_oneW (i := 17) (by kernel_rfl) rfl (by kernel_rfl) (by kernel_rfl) (fun K17 hK17 => ?_)
    go_simp
    refine hK17.out _ _ ?_
    try simp only [Act.put, List.getElem_toArray, List.getElem_cons_zero, List.getElem_cons_succ, List.setIfInBounds_toArray, List.set_cons_zero, List.set_cons_succ]
    refine wpAnyY_done (by kernel_rfl) ?_ _
    have gz := g0.t ga
    replace d0 := d0.keep ga
    replace r0 := r0.keep ga
    clear b0 hS HP HU HQ HIS xh h0 h1 h2 h3 h4 h5 h15
    by_cases hz : Z = 0
    · obtain ⟨F, rfl, hfc⟩ := hZ hz
      subst hz
      have HSKz := Lib.hid (HSK.out _ F gz hfc)
      clear HSK hfc hZ HK
      have HO := Lib.hid (fun w' h => HOK.out w' rfl h)
      clear HOK HER
      have p0 := d0.cell 0
      have p1 := d0.cell 1
      have lp := d0.lt
      go_upto_region 4 with fail
      refine wp_region_lit ?_
      refine wpList_plain rfl fun K hK => ?_
      go_simp
      refine hK _ _ ?_
      clear hK
      try simp only [Act.put, List.getElem_toArray, List.getElem_cons_zero, List.getElem_cons_succ, List.setIfInBounds_toArray, List.set_cons_zero, List.set_cons_succ]
      refine wpList_plain rfl fun K hK => ?_
      go_simp
      refine hK _ _ ?_
      clear hK
      try simp only [Act.put, List.getElem_toArray, List.getElem_cons_zero, List.getElem_cons_succ, List.setIfInBounds_toArray, List.set_cons_zero, List.set_cons_succ]
      refine wpList_plain rfl fun K hK => ?_
      go_simp
      refine hK _ _ ?_
      clear hK
      try simp only [Act.put, List.getElem_toArray, List.getElem_cons_zero, List.getElem_cons_succ, List.setIfInBounds_toArray, List.set_cons_zero, List.set_cons_succ]
      refine wpList_plain rfl fun K hK => ?_
      go_simp
      refine hK _ _ ?_
      clear hK
      try simp only [Act.put, List.getElem_toArray, List.getElem_cons_zero, List.getElem_cons_succ, List.setIfInBounds_toArray, List.set_cons_zero, List.set_cons_succ]
      refine wpList_plain rfl fun K hK => ?_
      go_simp
      refine (HSKz.out).mono ?_
      rintro e w5 ⟨rfl, hG5⟩
      refine hK _ _ ?_
      clear hK K
      try simp only [Act.put, List.getElem_toArray, List.getElem_cons_zero, List.getElem_cons_succ, List.setIfInBounds_toArray, List.set_cons_zero, List.set_cons_succ]
      replace d0 := d0.keep hG5
      replace r0 := r0.keep hG5
      replace gz := gz.t hG5
      clear HSKz p0 p1 lp
      have hz : Blk (w5.alloc (.cells sk0.v 102)) w5.heap.size 102 sk0.v := Blk.new _ _ _
      have gb : G w5 (w5.alloc (.cells sk0.v 102)) := (G.rf _).a _
      have lr := r0.lt
      refine wpList_plain rfl fun K hK => ?_
      go_simp
      refine hK _ _ ?_
      clear hK
      try simp only [Act.put, List.getElem_toArray, List.getElem_cons_zero, List.getElem_cons_succ, List.setIfInBounds_toArray, List.set_cons_zero, List.set_cons_succ]
      refine wpList_store102 w5.heap.size 10 35 rfl rfl rfl rfl hz fun W2 hB2 hF2 hG2 => ?_
      have g52 := hG2 w5 (Nat.le_refl _) gb
      replace r0 := r0.keep g52
      replace gz := gz.t g52
      clear hF2 hG2 hz gb g52 d0
      obtain ⟨gA, hgA⟩ : ∃ gA, gA = w5.heap.size := ⟨_, rfl⟩
      rw [← hgA] at hB2 ⊢
      have hneA : w.heap.size + 1 + 1 ≠ gA := by omega
      clear hgA lr
      try simp only [Act.put, List.getElem_toArray, List.getElem_cons_zero, List.getElem_cons_succ, List.setIfInBounds_toArray, List.set_cons_zero, List.set_cons_succ]
      obtain ⟨x0, x1, x2, x3, x4, x5⟩ := s
      have c0 : W2.cell? ⟨gA, 0, none⟩ = some (.int .i64 x0) := hB2.cell 0
      have c1 : W2.cell? ⟨gA, 1, none⟩ = some (.int .i64 x1) := hB2.cell 1
      have c2 : W2.cell? ⟨gA, 2, none⟩ = some (.int .i64 x2) := hB2.cell 2
      have c3 : W2.cell? ⟨gA, 3, none⟩ = some (.int .i64 x3) := hB2.cell 3
      have c4 : W2.cell? ⟨gA, 4, none⟩ = some (.int .i64 x4) := hB2.cell 4
      have c5 : W2.cell? ⟨gA, 5, none⟩ = some (.int .i64 x5) := hB2.cell 5
      have lA := hB2.lt
      have q0 : W2.cell? ⟨w.heap.size + 1 + 1, 0, none⟩ = some (.int .i64 0) := r0.cell 0; have q1 : W2.cell? ⟨w.heap.size + 1 + 1, 1, none⟩ = some (.int .i64 0) := r0.cell 1; have q2 : W2.cell? ⟨w.heap.size + 1 + 1, 2, none⟩ = some (.int .i64 0) := r0.cell 2; have q3 : W2.cell? ⟨w.heap.size + 1 + 1, 3, none⟩ = some (.int .i64 0) := r0.cell 3; have q4 : W2.cell? ⟨w.heap.size + 1 + 1, 4, none⟩ = some (.int .i64 0) := r0.cell 4; have q5 : W2.cell? ⟨w.heap.size + 1 + 1, 5, none⟩ = some (.int .i64 0) := r0.cell 5
      have z0 := r0.frozen 0; have z1 := r0.frozen 1; have z2 := r0.frozen 2; have z3 := r0.frozen 3; have z4 := r0.frozen 4; have z5 := r0.frozen 5
      have lr := r0.lt
      have hB6 : Blk (W6 W2 (w.heap.size + 1 + 1) (.int .i64 x0) (.int .i64 x1) (.int .i64 x2) (.int .i64 x3) (.int .i64 x4) (.int .i64 x5)) (w.heap.size + 1 + 1) 55 (Sk.mk x0 x1 x2 x3 x4 x5).v := W6_blk r0 _ _ _ _ _ _
      have hg6 := W6_G (W := W2) (w0 := w) (g := w.heap.size + 1 + 1) (by omega) gz (.int .i64 x0) (.int .i64 x1) (.int .i64 x2) (.int .i64 x3) (.int .i64 x4) (.int .i64 x5)
      have HF := Lib.hid (HO.out _ hg6)
      have HB6 := Lib.hid hB6
      clear hB6 hg6 HO
      go_wp2
      exact bodyPost_ret (res19 _ _ (w.heap.size + 1 + 1) (Sk.mk x0 x1 x2 x3 x4 x5) 0 rfl rfl HB6.out) rfl HF.out
    · have hz1 : (Z == 0) = false := by simpa using hz
      have hz2 : (Z != 0) = true := by simpa using hz
      have hB6 : Blk (W6 w4 (w.heap.size + 1 + 1) (.int .i64 0) (.int .i64 0) (.int .i64 0) (.int .i64 0) (.int .i64 0) (.int .i64 0)) (w.heap.size + 1 + 1) 55 sk0.v := W6_blk r0 _ _ _ _ _ _
      have hg6 := W6_G (W := w4) (w0 := w) (g := w.heap.size + 1 + 1) (by omega) gz (.int .i64 0) (.int .i64 0) (.int .i64 0) (.int .i64 0) (.int .i64 0) (.int .i64 0)
      have HF := Lib.hid (HER.out _ hz hg6)
      have HB6 := Lib.hid hB6
      have q0 : w4.cell? ⟨w.heap.size + 1 + 1, 0, none⟩ = some (.int .i64 0) := r0.cell 0; have q1 : w4.cell? ⟨w.heap.size + 1 + 1, 1, none⟩ = some (.int .i64 0) := r0.cell 1; have q2 : w4.cell? ⟨w.heap.size + 1 + 1, 2, none⟩ = some (.int .i64 0) := r0.cell 2; have q3 : w4.cell? ⟨w.heap.size + 1 + 1, 3, none⟩ = some (.int .i64 0) := r0.cell 3; have q4 : w4.cell? ⟨w.heap.size + 1 + 1, 4, none⟩ = some (.int .i64 0) := r0.cell 4; have q5 : w4.cell? ⟨w.heap.size + 1 + 1, 5, none⟩ = some (.int .i64 0) := r0.cell 5
      have z0 := r0.frozen 0; have z1 := r0.frozen 1; have z2 := r0.frozen 2; have z3 := r0.frozen 3; have z4 := r0.frozen 4; have z5 := r0.frozen 5
      have lr := r0.lt
      clear hB6 hg6 HOK HER HSK hZ HK hz
      go_wp2
      exact bodyPost_ret (res19 _ _ (w.heap.size + 1 + 1) sk0 Z rfl rfl HB6.out) rfl HF.out
  ·
    refine wpAnyY_take (i := 6) (v := ?_) rfl (by kernel_rfl) (by kernel_rfl) (by kernel_rfl) (by kernel_rfl) (fun _ _ _ h => h) (Or.inl ⟨by kernel_rfl, ?_⟩) hS ?_
    rotate_left
    · intro w' hSw; go_simp; with_reducible rfl
    try simp only [Act.put, List.getElem_toArray, List.getElem_cons_zero, List.getElem_cons_succ, List.setIfInBounds_toArray, List.set_cons_zero, List.set_cons_succ]
    refine wpAnyY_take (i := 7) (v := ?_) rfl (by kernel_rfl) (by kernel_rfl) (by kernel_rfl) (by kernel_rfl) (fun _ _ _ h => h) (Or.inl ⟨by kernel_rfl, ?_⟩) hS ?_
    rotate_left
    · intro w' hSw; go_simp; with_reducible rfl
    try simp only [Act.put, List.getElem_toArray, List.getElem_cons_zero, List.getElem_cons_succ, List.setIfInBounds_toArray, List.set_cons_zero, List.set_cons_succ]
    refine wpAnyY_take (i := 8) (v := ?_) rfl (by kernel_rfl) (by kernel_rfl) (by kernel_rfl) (by kernel_rfl) (fun _ _ _ h => h) (Or.inl ⟨by kernel_rfl, ?_⟩) hS ?_
    rotate_left
    · intro w' hSw; have e15 := (hSw.1.cell 15).trans h15; have lb := hSw.1.lt; go_simp; with_reducible rfl
    try simp only [Act.put, List.getElem_toArray, List.getElem_cons_zero, List.getElem_cons_succ, List.setIfInBounds_toArray, List.set_cons_zero, List.set_cons_succ]
    refine wpAnyY_take (i := 9) (v := ?_) rfl (by kernel_rfl) (by kernel_rfl) (by kernel_rfl) (by kernel_rfl) (fun _ _ _ h => h) (Or.inl ⟨by kernel_rfl, ?_⟩) hS ?_
    rotate_left
    · intro w' hSw; go_simp; with_reducible rfl
    try simp only [Act.put, List.getElem_toArray, List.getElem_cons_zero, List.getElem_cons_succ, List.setIfInBounds_toArray, List.set_cons_zero, List.set_cons_succ]
    refine wpAnyY_oneSW (i := 10) (by kernel_rfl) rfl (by kernel_rfl) (fun K10 hK10 => ?_)
    go_simp
    refine (HU.out _).mono ?_
    rintro e w3 ⟨rfl, hG10⟩
    replace ga := ga.t hG10
    refine hK10.out _ _ ⟨b0.keep ga, d0.keep ga⟩ (fun hS => ?_)
    try simp only [Act.put, List.getElem_toArray, List.getElem_cons_zero, List.getElem_cons_succ, List.setIfInBounds_toArray, List.set_cons_zero, List.set_cons_succ]
    refine wpAnyY_take (i := 11) (v := ?_) rfl (by kernel_rfl) (by kernel_rfl) (by kernel_rfl) (by kernel_rfl) (fun _ _ _ h => h) (Or.inl ⟨by kernel_rfl, ?_⟩) hS ?_
    rotate_left
    · intro w' hSw; go_simp; with_reducible rfl
    try simp only [Act.put, List.getElem_toArray, List.getElem_cons_zero, List.getElem_cons_succ, List.setIfInBounds_toArray, List.set_cons_zero, List.set_cons_succ]
    refine wpAnyY_oneSW (i := 12) (by kernel_rfl) rfl (by kernel_rfl) (fun K12 hK12 => ?_)
    go_simp
    refine (HQ.out _ (g0.t ga)).mono ?_
    rintro e w4 ⟨p, rfl, hG12, hZ⟩
    replace ga := ga.t hG12
    refine hK12.out _ _ ⟨b0.keep ga, d0.keep ga⟩ (fun hS => ?_)
    try simp only [Act.put, List.getElem_toArray, List.getElem_cons_zero, List.getElem_cons_succ, List.setIfInBounds_toArray, List.set_cons_zero, List.set_cons_succ]
    refine wpAnyY_take (i := 13) (v := ?_) rfl (by kernel_rfl) (by kernel_rfl) (by kernel_rfl) (by kernel_rfl) (fun _ _ _ h => h) (Or.inl ⟨by kernel_rfl, ?_⟩) hS ?_
    rotate_left
    · intro w' hSw; go_simp; with_reducible rfl
    try simp only [Act.put, List.getElem_toArray, List.getElem_cons_zero, List.getElem_cons_succ, List.setIfInBounds_toArray, List.set_cons_zero, List.set_cons_succ]
    refine wpAnyY_take (i := 14) (v := ?_) rfl (by kernel_rfl) (by kernel_rfl) (by kernel_rfl) (by kernel_rfl) (fun _ _ _ h => h) (Or.inl ⟨by kernel_rfl, ?_⟩) hS ?_
    rotate_left
    · intro w' hSw; go_simp; with_reducible rfl
    try simp only [Act.put, List.getElem_toArray, List.getElem_cons_zero, List.getElem_cons_succ, List.setIfInBounds_toArray, List.set_cons_zero, List.set_cons_succ]
    refine wpAnyY_take (i := 15) (v := ?_) rfl (by kernel_rfl) (by kernel_rfl) (by kernel_rfl) (by kernel_rfl) (fun _ _ _ h => h) (Or.inl ⟨by kernel_rfl, ?_⟩) hS ?_
    rotate_left
    · intro w' hSw; go_simp; with_reducible rfl
    try simp only [Act.put, List.getElem_toArray, List.getElem_cons_zero, List.getElem_cons_succ, List.setIfInBounds_toArray, List.set_cons_zero, List.set_cons_succ]
    refine wpAnyY_oneSW (i := 16) (by kernel_rfl) rfl (by kernel_rfl) (fun K16 hK16 => ?_)
    go_simp
    refine hK16.out _ _ ⟨b0.keep ga, d0.keep ga⟩ (fun hS => ?_)
    try simp only [Act.put, List.getElem_toArray, List.getElem_cons_zero, List.getElem_cons_succ, List.setIfInBounds_toArray, List.set_cons_zero, List.set_cons_succ]
    refine wpAnyY_oneW (i := 17) (by kernel_rfl) rfl (by kernel_rfl) (by kernel_rfl) (fun K17 hK17 => ?_)
    go_simp
    refine hK17.out _ _ ?_
    try simp only [Act.put, List.getElem_toArray, List.getElem_cons_zero, List.getElem_cons_succ, List.setIfInBounds_toArray, List.set_cons_zero, List.set_cons_succ]
    refine wpAnyY_done (by kernel_rfl) ?_ _
    have gz := g0.t ga
    replace d0 := d0.keep ga
    replace r0 := r0.keep ga
    clear b0 hS HP HU HQ HIS xh h0 h1 h2 h3 h4 h5 h15
    by_cases hz : Z = 0
    · obtain ⟨F, rfl, hfc⟩ := hZ hz
      subst hz
      have HSKz := Lib.hid (HSK.out _ F gz hfc)
      clear HSK hfc hZ HK
      have HO := Lib.hid (fun w' h => HOK.out w' rfl h)
      clear HOK HER
      have p0 := d0.cell 0
      have p1 := d0.cell 1
      have lp := d0.lt
      go_upto_region 4 with fail
      refine wp_region_lit ?_
      refine wpList_plain rfl fun K hK => ?_
      go_simp
      refine hK _ _ ?_
      clear hK
      try simp only [Act.put, List.getElem_toArray, List.getElem_cons_zero, List.getElem_cons_succ, List.setIfInBounds_toArray, List.set_cons_zero, List.set_cons_succ]
      refine wpList_plain rfl fun K hK => ?_
      go_simp
      refine hK _ _ ?_
      clear hK
      try simp only [Act.put, List.getElem_toArray, List.getElem_cons_zero, List.getElem_cons_succ, List.setIfInBounds_toArray, List.set_cons_zero, List.set_cons_succ]
      refine wpList_plain rfl fun K hK => ?_
      go_simp
      refine hK _ _ ?_
      clear hK
      try simp only [Act.put, List.getElem_toArray, List.getElem_cons_zero, List.getElem_cons_succ, List.setIfInBounds_toArray, List.set_cons_zero, List.set_cons_succ]
      refine wpList_plain rfl fun K hK => ?_
      go_simp
      refine hK _ _ ?_
      clear hK
      try simp only [Act.put, List.getElem_toArray, List.getElem_cons_zero, List.getElem_cons_succ, List.setIfInBounds_toArray, List.set_cons_zero, List.set_cons_succ]
      refine wpList_plain rfl fun K hK => ?_
      go_simp
      refine (HSKz.out).mono ?_
      rintro e w5 ⟨rfl, hG5⟩
      refine hK _ _ ?_
      clear hK K
      try simp only [Act.put, List.getElem_toArray, List.getElem_cons_zero, List.getElem_cons_succ, List.setIfInBounds_toArray, List.set_cons_zero, List.set_cons_succ]
      replace d0 := d0.keep hG5
      replace r0 := r0.keep hG5
      replace gz := gz.t hG5
      clear HSKz p0 p1 lp
      have hz : Blk (w5.alloc (.cells sk0.v 102)) w5.heap.size 102 sk0.v := Blk.new _ _ _
      have gb : G w5 (w5.alloc (.cells sk0.v 102)) := (G.rf _).a _
      have lr := r0.lt
      refine wpList_plain rfl fun K hK => ?_
      go_simp
      refine hK _ _ ?_
      clear hK
      try simp only [Act.put, List.getElem_toArray, List.getElem_cons_zero, List.getElem_cons_succ, List.setIfInBounds_toArray, List.set_cons_zero, List.set_cons_succ]
      refine wpList_store102 w5.heap.size 10 35 rfl rfl rfl rfl hz fun W2 hB2 hF2 hG2 => ?_
      have g52 := hG2 w5 (Nat.le_refl _) gb
      replace r0 := r0.keep g52
      replace gz := gz.t g52
      clear hF2 hG2 hz gb g52 d0
      obtain ⟨gA, hgA⟩ : ∃ gA, gA = w5.heap.size := ⟨_, rfl⟩
      rw [← hgA] at hB2 ⊢
      have hneA : w.heap.size + 1 + 1 ≠ gA := by omega
      clear hgA lr
      try simp only [Act.put, List.getElem_toArray, List.getElem_cons_zero, List.getElem_cons_succ, List.setIfInBounds_toArray, List.set_cons_zero, List.set_cons_succ]
      obtain ⟨x0, x1, x2, x3, x4, x5⟩ := s
      have c0 : W2.cell? ⟨gA, 0, none⟩ = some (.int .i64 x0) := hB2.cell 0
      have c1 : W2.cell? ⟨gA, 1, none⟩ = some (.int .i64 x1) := hB2.cell 1
      have c2 : W2.cell? ⟨gA, 2, none⟩ = some (.int .i64 x2) := hB2.cell 2
      have c3 : W2.cell? ⟨gA, 3, none⟩ = some (.int .i64 x3) := hB2.cell 3
      have c4 : W2.cell? ⟨gA, 4, none⟩ = some (.int .i64 x4) := hB2.cell 4
      have c5 : W2.cell? ⟨gA, 5, none⟩ = some (.int .i64 x5) := hB2.cell 5
      have lA := hB2.lt
      have q0 : W2.cell? ⟨w.heap.size + 1 + 1, 0, none⟩ = some (.int .i64 0) := r0.cell 0; have q1 : W2.cell? ⟨w.heap.size + 1 + 1, 1, none⟩ = some (.int .i64 0) := r0.cell 1; have q2 : W2.cell? ⟨w.heap.size + 1 + 1, 2, none⟩ = some (.int .i64 0) := r0.cell 2; have q3 : W2.cell? ⟨w.heap.size + 1 + 1, 3, none⟩ = some (.int .i64 0) := r0.cell 3; have q4 : W2.cell? ⟨w.heap.size + 1 + 1, 4, none⟩ = some (.int .i64 0) := r0.cell 4; have q5 : W2.cell? ⟨w.heap.size + 1 + 1, 5, none⟩ = some (.int .i64 0) := r0.cell 5
      have z0 := r0.frozen 0; have z1 := r0.frozen 1; have z2 := r0.frozen 2; have z3 := r0.frozen 3; have z4 := r0.frozen 4; have z5 := r0.frozen 5
      have lr := r0.lt
      have hB6 : Blk (W6 W2 (w.heap.size + 1 + 1) (.int .i64 x0) (.int .i64 x1) (.int .i64 x2) (.int .i64 x3) (.int .i64 x4) (.int .i64 x5)) (w.heap.size + 1 + 1) 55 (Sk.mk x0 x1 x2 x3 x4 x5).v := W6_blk r0 _ _ _ _ _ _
      have hg6 := W6_G (W := W2) (w0 := w) (g := w.heap.size + 1 + 1) (by omega) gz (.int .i64 x0) (.int .i64 x1) (.int .i64 x2) (.int .i64 x3) (.int .i64 x4) (.int .i64 x5)
      have HF := Lib.hid (HO.out _ hg6)
      have HB6 := Lib.hid hB6
      clear hB6 hg6 HO
      go_wp2
      exact bodyPost_ret (res19 _ _ (w.heap.size + 1 + 1) (Sk.mk x0 x1 x2 x3 x4 x5) 0 rfl rfl HB6.out) rfl HF.out
    · have hz1 : (Z == 0) = false := by simpa using hz
      have hz2 : (Z != 0) = true := by simpa using hz
      have hB6 : Blk (W6 w4 (w.heap.size + 1 + 1) (.int .i64 0) (.int .i64 0) (.int .i64 0) (.int .i64 0) (.int .i64 0) (.int .i64 0)) (w.heap.size + 1 + 1) 55 sk0.v := W6_blk r0 _ _ _ _ _ _
      have hg6 := W6_G (W := w4) (w0 := w) (g := w.heap.size + 1 + 1) (by omega) gz (.int .i64 0) (.int .i64 0) (.int .i64 0) (.int .i64 0) (.int .i64 0) (.int .i64 0)
      have HF := Lib.hid (HER.out _ hz hg6)
      have HB6 := Lib.hid hB6
      have q0 : w4.cell? ⟨w.heap.size + 1 + 1, 0, none⟩ = some (.int .i64 0) := r0.cell 0; have q1 : w4.cell? ⟨w.heap.size + 1 + 1, 1, none⟩ = some (.int .i64 0) := r0.cell 1; have q2 : w4.cell? ⟨w.heap.size + 1 + 1, 2, none⟩ = some (.int .i64 0) := r0.cell 2; have q3 : w4.cell? ⟨w.heap.size + 1 + 1, 3, none⟩ = some (.int .i64 0) := r0.cell 3; have q4 : w4.cell? ⟨w.heap.size + 1 + 1, 4, none⟩ = some (.int .i64 0) := r0.cell 4; have q5 : w4.cell? ⟨w.heap.size + 1 + 1, 5, none⟩ = some (.int .i64 0) := r0.cell 5
      have z0 := r0.frozen 0; have z1 := r0.frozen 1; have z2 := r0.frozen 2; have z3 := r0.frozen 3; have z4 := r0.frozen 4; have z5 := r0.frozen 5
      have lr := r0.lt
      clear hB6 hg6 HOK HER HSK hZ HK hz
      go_wp2
      exact bodyPost_ret (res19 _ _ (w.heap.size + 1 + 1) sk0 Z rfl rfl HB6.out) rfl HF.out
end
end Go.Proofs.Ytcekdljjmfkacaa
set_option linter.unusedSimpArgs false
set_option linter.unusedVariables false
namespace Go.Proofs.Ytcekdljjmfkacaa
open Go.RowKit Go.Shelf
attribute [local go_sem] Oper.semAt_some wide_fn wide_dep wideR_fn wideR_dep
section
open Go.RowKit
set_option maxRecDepth 100000
def opsu12 : Array Oper := #[{ dst := some 85, op := Go.Op.fieldAddr 51 (Go.Operand.tmp 3) 2, type := 0, pos := "outright.go:93", after := #[], guard := none }, { dst := some 86, op := Go.Op.load 3 (Go.Operand.tmp 85), type := 3, pos := "outright.go:93", after := #[{ on := 0, ground := Go.Ground.data }], guard := none }, { dst := some 87, op := Go.Op.binOp Go.BinOp.lss 3 (Go.Operand.tmp 86) (Go.Operand.const (Go.Value.int Go.IntKind.i64 0)) 3, type := 4, pos := "outright.go:93", after := #[{ on := 1, ground := Go.Ground.data }], guard := none }, { dst := some 88, op := Go.Op.move (Go.Operand.tmp 87), type := 4, pos := "outright.go:93", after := #[{ on := 2, ground := Go.Ground.data }], guard := none }, { dst := some 89, op := Go.Op.fieldAddr 51 (Go.Operand.tmp 3) 2, type := 0, pos := "outright.go:93", after := #[{ on := 3, ground := Go.Ground.guard }], guard := some (3, false) }, { dst := some 90, op := Go.Op.load 3 (Go.Operand.tmp 89), type := 3, pos := "outright.go:93", after := #[{ on := 4, ground := Go.Ground.data }, { on := 3, ground := Go.Ground.guard }], guard := some (3, false) }, { dst := some 91, op := Go.Op.move (Go.Operand.tmp 7), type := 28, pos := "outright.go:93", after := #[{ on := 3, ground := Go.Ground.guard }], guard := some (3, false) }, { dst := some 92, op := Go.Op.call { callee := Go.Callee.builtin Go.Builtin.len, args := #[Go.Operand.tmp 91], argTypes := #[28] }, type := 3, pos := "outright.go:93", after := #[{ on := 6, ground := Go.Ground.data }, { on := 3, ground := Go.Ground.guard }], guard := some (3, false) }, { dst := some 93, op := Go.Op.binOp Go.BinOp.geq 3 (Go.Operand.tmp 90) (Go.Operand.tmp 92) 3, type := 4, pos := "outright.go:93", after := #[{ on := 5, ground := Go.Ground.data }, { on := 7, ground := Go.Ground.data }, { on := 3, ground := Go.Ground.guard }], guard := some (3, false) }, { dst := some 94, op := Go.Op.pick (Go.Operand.tmp 88) (Go.Operand.const (Go.Value.bool true)) (Go.Operand.tmp 93), type := 4, pos := "outright.go:93", after := #[{ on := 3, ground := Go.Ground.data }, { on := 8, ground := Go.Ground.data }], guard := none }, { dst := some 95, op := Go.Op.move (Go.Operand.tmp 94), type := 4, pos := "outright.go:93", after := #[{ on := 9, ground := Go.Ground.data }, { on := 3, ground := Go.Ground.chain }], guard := none }, { dst := some 96, op := Go.Op.fieldAddr 51 (Go.Operand.tmp 3) 1, type := 0, pos := "outright.go:93", after := #[{ on := 10, ground := Go.Ground.guard }], guard := some (10, false) }, { dst := some 97, op := Go.Op.load 3 (Go.Operand.tmp 96), type := 3, pos := "outright.go:93", after := #[{ on := 11, ground := Go.Ground.data }, { on := 10, ground := Go.Ground.guard }], guard := some (10, false) }, { dst := some 98, op := Go.Op.fieldAddr 51 (Go.Operand.tmp 3) 3, type := 0, pos := "outright.go:93", after := #[{ on := 10, ground := Go.Ground.guard }], guard := some (10, false) }, { dst := some 99, op := Go.Op.load 3 (Go.Operand.tmp 98), type := 3, pos := "outright.go:93", after := #[{ on := 13, ground := Go.Ground.data }, { on := 10, ground := Go.Ground.guard }], guard := some (10, false) }, { dst := some 100, op := Go.Op.binOp Go.BinOp.add 3 (Go.Operand.tmp 97) (Go.Operand.tmp 99) 3, type := 3, pos := "outright.go:93", after := #[{ on := 12, ground := Go.Ground.data }, { on := 14, ground := Go.Ground.data }, { on := 10, ground := Go.Ground.guard }], guard := some (10, false) }, { dst := some 101, op := Go.Op.move (Go.Operand.tmp 9), type := 44, pos := "outright.go:93", after := #[{ on := 10, ground := Go.Ground.guard }], guard := some (10, false) }, { dst := some 102, op := Go.Op.fieldAddr 51 (Go.Operand.tmp 3) 2, type := 0, pos := "outright.go:93", after := #[{ on := 10, ground := Go.Ground.guard }], guard := some (10, false) }, { dst := some 103, op := Go.Op.load 3 (Go.Operand.tmp 102), type := 3, pos := "outright.go:93", after := #[{ on := 17, ground := Go.Ground.data }, { on := 10, ground := Go.Ground.guard }], guard := some (10, false) }, { dst := some 104, op := Go.Op.indexAddr 44 (Go.Operand.tmp 101) (Go.Operand.tmp 103), type := 0, pos := "outright.go:93", after := #[{ on := 16, ground := Go.Ground.data }, { on := 18, ground := Go.Ground.data }, { on := 10, ground := Go.Ground.guard }], guard := some (10, false) }, { dst := some 105, op := Go.Op.load 30 (Go.Operand.tmp 104), type := 30, pos := "outright.go:93", after := #[{ on := 19, ground := Go.Ground.data }, { on := 10, ground := Go.Ground.guard }], guard := some (10, false) }, { dst := some 106, op := Go.Op.call { callee := Go.Callee.value (Go.Operand.func 18), args := #[Go.Operand.tmp 100, Go.Operand.tmp 105], argTypes := #[3, 30] }, type := 4, pos := "outright.go:93", after := #[{ on := 15, ground := Go.Ground.data }, { on := 20, ground := Go.Ground.data }, { on := 10, ground := Go.Ground.chain }, { on := 10, ground := Go.Ground.guard }], guard := some (10, false) }, { dst := some 107, op := Go.Op.unOp Go.UnOp.not 4 (Go.Operand.tmp 106), type := 4, pos := "outright.go:93", after := #[{ on := 21, ground := Go.Ground.data }, { on := 10, ground := Go.Ground.guard }], guard := some (10, false) }, { dst := some 108, op := Go.Op.pick (Go.Operand.tmp 95) (Go.Operand.const (Go.Value.bool true)) (Go.Operand.tmp 107), type := 4, pos := "outright.go:93", after := #[{ on := 10, ground := Go.Ground.data }, { on := 22, ground := Go.Ground.data }], guard := none }, { dst := some 109, op := Go.Op.move (Go.Operand.tmp 108), type := 4, pos := "outright.go:93", after := #[{ on := 23, ground := Go.Ground.data }, { on := 21, ground := Go.Ground.chain }], guard := none }, { dst := some 110, op := Go.Op.fieldAddr 51 (Go.Operand.tmp 3) 3, type := 0, pos := "outright.go:93", after := #[{ on := 24, ground := Go.Ground.guard }], guard := some (24, false) }, { dst := some 111, op := Go.Op.load 3 (Go.Operand.tmp 110), type := 3, pos := "outright.go:93", after := #[{ on := 25, ground := Go.Ground.data }, { on := 24, ground := Go.Ground.guard }], guard := some (24, false) }, { dst := some 112, op := Go.Op.binOp Go.BinOp.lss 3 (Go.Operand.tmp 111) (Go.Operand.const (Go.Value.int Go.IntKind.i64 0)) 3, type := 4, pos := "outright.go:93", after := #[{ on := 26, ground := Go.Ground.data }, { on := 24, ground := Go.Ground.guard }], guard := some (24, false) }, { dst := some 113, op := Go.Op.pick (Go.Operand.tmp 109) (Go.Operand.const (Go.Value.bool true)) (Go.Operand.tmp 112), type := 4, pos := "outright.go:93", after := #[{ on := 24, ground := Go.Ground.data }, { on := 27, ground := Go.Ground.data }], guard := none }]
theorem ru12o_0 : opsu12[0]? = some { dst := some 85, op := Go.Op.fieldAddr 51 (Go.Operand.tmp 3) 2, type := 0, pos := "outright.go:93", after := #[], guard := none } := rfl
theorem ru12o_1 : opsu12[1]? = some { dst := some 86, op := Go.Op.load 3 (Go.Operand.tmp 85), type := 3, pos := "outright.go:93", after := #[{ on := 0, ground := Go.Ground.data }], guard := none } := rfl
theorem ru12o_2 : opsu12[2]? = some { dst := some 87, op := Go.Op.binOp Go.BinOp.lss 3 (Go.Operand.tmp 86) (Go.Operand.const (Go.Value.int Go.IntKind.i64 0)) 3, type := 4, pos := "outright.go:93", after := #[{ on := 1, ground := Go.Ground.data }], guard := none } := rfl
theorem ru12o_3 : opsu12[3]? = some { dst := some 88, op := Go.Op.move (Go.Operand.tmp 87), type := 4, pos := "outright.go:93", after := #[{ on := 2, ground := Go.Ground.data }], guard := none } := rfl
theorem ru12o_4 : opsu12[4]? = some { dst := some 89, op := Go.Op.fieldAddr 51 (Go.Operand.tmp 3) 2, type := 0, pos := "outright.go:93", after := #[{ on := 3, ground := Go.Ground.guard }], guard := some (3, false) } := rfl
theorem ru12o_5 : opsu12[5]? = some { dst := some 90, op := Go.Op.load 3 (Go.Operand.tmp 89), type := 3, pos := "outright.go:93", after := #[{ on := 4, ground := Go.Ground.data }, { on := 3, ground := Go.Ground.guard }], guard := some (3, false) } := rfl
theorem ru12o_6 : opsu12[6]? = some { dst := some 91, op := Go.Op.move (Go.Operand.tmp 7), type := 28, pos := "outright.go:93", after := #[{ on := 3, ground := Go.Ground.guard }], guard := some (3, false) } := rfl
theorem ru12o_7 : opsu12[7]? = some { dst := some 92, op := Go.Op.call { callee := Go.Callee.builtin Go.Builtin.len, args := #[Go.Operand.tmp 91], argTypes := #[28] }, type := 3, pos := "outright.go:93", after := #[{ on := 6, ground := Go.Ground.data }, { on := 3, ground := Go.Ground.guard }], guard := some (3, false) } := rfl
theorem ru12o_8 : opsu12[8]? = some { dst := some 93, op := Go.Op.binOp Go.BinOp.geq 3 (Go.Operand.tmp 90) (Go.Operand.tmp 92) 3, type := 4, pos := "outright.go:93", after := #[{ on := 5, ground := Go.Ground.data }, { on := 7, ground := Go.Ground.data }, { on := 3, ground := Go.Ground.guard }], guard := some (3, false) } := rfl
theorem ru12o_9 : opsu12[9]? = some { dst := some 94, op := Go.Op.pick (Go.Operand.tmp 88) (Go.Operand.const (Go.Value.bool true)) (Go.Operand.tmp 93), type := 4, pos := "outright.go:93", after := #[{ on := 3, ground := Go.Ground.data }, { on := 8, ground := Go.Ground.data }], guard := none } := rfl
theorem ru12o_10 : opsu12[10]? = some { dst := some 95, op := Go.Op.move (Go.Operand.tmp 94), type := 4, pos := "outright.go:93", after := #[{ on := 9, ground := Go.Ground.data }, { on := 3, ground := Go.Ground.chain }], guard := none } := rfl
theorem ru12o_11 : opsu12[11]? = some { dst := some 96, op := Go.Op.fieldAddr 51 (Go.Operand.tmp 3) 1, type := 0, pos := "outright.go:93", after := #[{ on := 10, ground := Go.Ground.guard }], guard := some (10, false) } := rfl
theorem ru12o_12 : opsu12[12]? = some { dst := some 97, op := Go.Op.load 3 (Go.Operand.tmp 96), type := 3, pos := "outright.go:93", after := #[{ on := 11, ground := Go.Ground.data }, { on := 10, ground := Go.Ground.guard }], guard := some (10, false) } := rfl
theorem ru12o_13 : opsu12[13]? = some { dst := some 98, op := Go.Op.fieldAddr 51 (Go.Operand.tmp 3) 3, type := 0, pos := "outright.go:93", after := #[{ on := 10, ground := Go.Ground.guard }], guard := some (10, false) } := rfl
theorem ru12o_14 : opsu12[14]? = some { dst := some 99, op := Go.Op.load 3 (Go.Operand.tmp 98), type := 3, pos := "outright.go:93", after := #[{ on := 13, ground := Go.Ground.data }, { on := 10, ground := Go.Ground.guard }], guard := some (10, false) } := rfl
theorem ru12o_15 : opsu12[15]? = some { dst := some 100, op := Go.Op.binOp Go.BinOp.add 3 (Go.Operand.tmp 97) (Go.Operand.tmp 99) 3, type := 3, pos := "outright.go:93", after := #[{ on := 12, ground := Go.Ground.data }, { on := 14, ground := Go.Ground.data }, { on := 10, ground := Go.Ground.guard }], guard := some (10, false) } := rfl
theorem ru12o_16 : opsu12[16]? = some { dst := some 101, op := Go.Op.move (Go.Operand.tmp 9), type := 44, pos := "outright.go:93", after := #[{ on := 10, ground := Go.Ground.guard }], guard := some (10, false) } := rfl
theorem ru12o_17 : opsu12[17]? = some { dst := some 102, op := Go.Op.fieldAddr 51 (Go.Operand.tmp 3) 2, type := 0, pos := "outright.go:93", after := #[{ on := 10, ground := Go.Ground.guard }], guard := some (10, false) } := rfl
theorem ru12o_18 : opsu12[18]? = some { dst := some 103, op := Go.Op.load 3 (Go.Operand.tmp 102), type := 3, pos := "outright.go:93", after := #[{ on := 17, ground := Go.Ground.data }, { on := 10, ground := Go.Ground.guard }], guard := some (10, false) } := rfl
theorem ru12o_19 : opsu12[19]? = some { dst := some 104, op := Go.Op.indexAddr 44 (Go.Operand.tmp 101) (Go.Operand.tmp 103), type := 0, pos := "outright.go:93", after := #[{ on := 16, ground := Go.Ground.data }, { on := 18, ground := Go.Ground.data }, { on := 10, ground := Go.Ground.guard }], guard := some (10, false) } := rfl
theorem ru12o_20 : opsu12[20]? = some { dst := some 105, op := Go.Op.load 30 (Go.Operand.tmp 104), type := 30, pos := "outright.go:93", after := #[{ on := 19, ground := Go.Ground.data }, { on := 10, ground := Go.Ground.guard }], guard := some (10, false) } := rfl
theorem ru12o_21 : opsu12[21]? = some { dst := some 106, op := Go.Op.call { callee := Go.Callee.value (Go.Operand.func 18), args := #[Go.Operand.tmp 100, Go.Operand.tmp 105], argTypes := #[3, 30] }, type := 4, pos := "outright.go:93", after := #[{ on := 15, ground := Go.Ground.data }, { on := 20, ground := Go.Ground.data }, { on := 10, ground := Go.Ground.chain }, { on := 10, ground := Go.Ground.guard }], guard := some (10, false) } := rfl
theorem ru12o_22 : opsu12[22]? = some { dst := some 107, op := Go.Op.unOp Go.UnOp.not 4 (Go.Operand.tmp 106), type := 4, pos := "outright.go:93", after := #[{ on := 21, ground := Go.Ground.data }, { on := 10, ground := Go.Ground.guard }], guard := some (10, false) } := rfl
theorem ru12o_23 : opsu12[23]? = some { dst := some 108, op := Go.Op.pick (Go.Operand.tmp 95) (Go.Operand.const (Go.Value.bool true)) (Go.Operand.tmp 107), type := 4, pos := "outright.go:93", after := #[{ on := 10, ground := Go.Ground.data }, { on := 22, ground := Go.Ground.data }], guard := none } := rfl
theorem ru12o_24 : opsu12[24]? = some { dst := some 109, op := Go.Op.move (Go.Operand.tmp 108), type := 4, pos := "outright.go:93", after := #[{ on := 23, ground := Go.Ground.data }, { on := 21, ground := Go.Ground.chain }], guard := none } := rfl
theorem ru12o_25 : opsu12[25]? = some { dst := some 110, op := Go.Op.fieldAddr 51 (Go.Operand.tmp 3) 3, type := 0, pos := "outright.go:93", after := #[{ on := 24, ground := Go.Ground.guard }], guard := some (24, false) } := rfl
theorem ru12o_26 : opsu12[26]? = some { dst := some 111, op := Go.Op.load 3 (Go.Operand.tmp 110), type := 3, pos := "outright.go:93", after := #[{ on := 25, ground := Go.Ground.data }, { on := 24, ground := Go.Ground.guard }], guard := some (24, false) } := rfl
theorem ru12o_27 : opsu12[27]? = some { dst := some 112, op := Go.Op.binOp Go.BinOp.lss 3 (Go.Operand.tmp 111) (Go.Operand.const (Go.Value.int Go.IntKind.i64 0)) 3, type := 4, pos := "outright.go:93", after := #[{ on := 26, ground := Go.Ground.data }, { on := 24, ground := Go.Ground.guard }], guard := some (24, false) } := rfl
theorem ru12o_28 : opsu12[28]? = some { dst := some 113, op := Go.Op.pick (Go.Operand.tmp 109) (Go.Operand.const (Go.Value.bool true)) (Go.Operand.tmp 112), type := 4, pos := "outright.go:93", after := #[{ on := 24, ground := Go.Ground.data }, { on := 27, ground := Go.Ground.data }], guard := none } := rfl
theorem ru12_0 : chk .any opsu12 28 [24, 23, 10, 3, 2, 1] #[false, false, false, false, false, false, false, false, false, false, false, false, false, false, false, false, false, false, false, false, false, false, false, false, false, false, false, false, false] 0 #[true, false, false, false, false, false, false, false, false, false, false, false, false, false, false, false, false, false, false, false, false, false, false, false, false, false, false, false, false] = true := by kernel_rfl
theorem ru12_1 : chk .any opsu12 28 [24, 23, 10, 3, 2] #[true, false, false, false, false, false, false, false, false, false, false, false, false, false, false, false, false, false, false, false, false, false, false, false, false, false, false, false, false] 1 #[true, true, false, false, false, false, false, false, false, false, false, false, false, false, false, false, false, false, false, false, false, false, false, false, false, false, false, false, false] = true := by kernel_rfl
theorem ru12_2 : chk .any opsu12 28 [24, 23, 10, 3] #[true, true, false, false, false, false, false, false, false, false, false, false, false, false, false, false, false, false, false, false, false, false, false, false, false, false, false, false, false] 2 #[true, true, true, false, false, false, false, false, false, false, false, false, false, false, false, false, false, false, false, false, false, false, false, false, false, false, false, false, false] = true := by kernel_rfl
theorem ru12_3 : chk .any opsu12 28 [24, 23, 10] #[true, true, true, false, false, false, false, false, false, false, false, false, false, false, false, false, false, false, false, false, false, false, false, false, false, false, false, false, false] 3 #[true, true, true, true, false, false, false, false, false, false, false, false, false, false, false, false, false, false, false, false, false, false, false, false, false, false, false, false, false] = true := by kernel_rfl
theorem ru12_4 : chk .any opsu12 28 [24, 23, 10, 9, 8, 5] #[true, true, true, true, false, false, false, false, false, false, false, false, false, false, false, false, false, false, false, false, false, false, false, false, false, false, false, false, false] 4 #[true, true, true, true, true, false, false, false, false, false, false, false, false, false, false, false, false, false, false, false, false, false, false, false, false, false, false, false, false] = true := by kernel_rfl
theorem ru12_5 : chk .any opsu12 28 [24, 23, 10, 9, 8] #[true, true, true, true, true, false, false, false, false, false, false, false, false, false, false, false, false, false, false, false, false, false, false, false, false, false, false, false, false] 5 #[true, true, true, true, true, true, false, false, false, false, false, false, false, false, false, false, false, false, false, false, false, false, false, false, false, false, false, false, false] = true := by kernel_rfl
theorem ru12_6 : chk .any opsu12 28 [24, 23, 10, 9, 8, 7] #[true, true, true, true, true, true, false, false, false, false, false, false, false, false, false, false, false, false, false, false, false, false, false, false, false, false, false, false, false] 6 #[true, true, true, true, true, true, true, false, false, false, false, false, false, false, false, false, false, false, false, false, false, false, false, false, false, false, false, false, false] = true := by kernel_rfl
theorem ru12_7 : chk .any opsu12 28 [24, 23, 10, 9, 8] #[true, true, true, true, true, true, true, false, false, false, false, false, false, false, false, false, false, false, false, false, false, false, false, false, false, false, false, false, false] 7 #[true, true, true, true, true, true, true, true, false, false, false, false, false, false, false, false, false, false, false, false, false, false, false, false, false, false, false, false, false] = true := by kernel_rfl
theorem ru12_8 : chk .any opsu12 28 [24, 23, 10, 9] #[true, true, true, true, true, true, true, true, false, false, false, false, false, false, false, false, false, false, false, false, false, false, false, false, false, false, false, false, false] 8 #[true, true, true, true, true, true, true, true, true, false, false, false, false, false, false, false, false, false, false, false, false, false, false, false, false, false, false, false, false] = true := by kernel_rfl
theorem ru12_9 : chk .any opsu12 28 [24, 23, 10] #[true, true, true, true, true, true, true, true, true, false, false, false, false, false, false, false, false, false, false, false, false, false, false, false, false, false, false, false, false] 9 #[true, true, true, true, true, true, true, true, true, true, false, false, false, false, false, false, false, false, false, false, false, false, false, false, false, false, false, false, false] = true := by kernel_rfl
theorem ru12_10 : chk .any opsu12 28 [24, 23] #[true, true, true, true, true, true, true, true, true, true, false, false, false, false, false, false, false, false, false, false, false, false, false, false, false, false, false, false, false] 10 #[true, true, true, true, true, true, true, true, true, true, true, false, false, false, false, false, false, false, false, false, false, false, false, false, false, false, false, false, false] = true := by kernel_rfl
theorem ru12_11 : chk .any opsu12 28 [24, 21, 15, 12] #[true, true, true, true, true, true, true, true, true, true, true, false, false, false, false, false, false, false, false, false, false, false, false, false, false, false, false, false, false] 11 #[true, true, true, true, true, true, true, true, true, true, true, true, false, false, false, false, false, false, false, false, false, false, false, false, false, false, false, false, false] = true := by kernel_rfl
theorem ru12_12 : chk .any opsu12 28 [24, 21, 15] #[true, true, true, true, true, true, true, true, true, true, true, true, false, false, false, false, false, false, false, false, false, false, false, false, false, false, false, false, false] 12 #[true, true, true, true, true, true, true, true, true, true, true, true, true, false, false, false, false, false, false, false, false, false, false, false, false, false, false, false, false] = true := by kernel_rfl
theorem ru12_13 : chk .any opsu12 28 [24, 21, 15, 14] #[true, true, true, true, true, true, true, true, true, true, true, true, true, false, false, false, false, false, false, false, false, false, false, false, false, false, false, false, false] 13 #[true, true, true, true, true, true, true, true, true, true, true, true, true, true, false, false, false, false, false, false, false, false, false, false, false, false, false, false, false] = true := by kernel_rfl
theorem ru12_14 : chk .any opsu12 28 [24, 21, 15] #[true, true, true, true, true, true, true, true, true, true, true, true, true, true, false, false, false, false, false, false, false, false, false, false, false, false, false, false, false] 14 #[true, true, true, true, true, true, true, true, true, true, true, true, true, true, true, false, false, false, false, false, false, false, false, false, false, false, false, false, false] = true := by kernel_rfl
theorem ru12_15 : chk .any opsu12 28 [24, 21] #[true, true, true, true, true, true, true, true, true, true, true, true, true, true, true, false, false, false, false, false, false, false, false, false, false, false, false, false, false] 15 #[true, true, true, true, true, true, true, true, true, true, true, true, true, true, true, true, false, false, false, false, false, false, false, false, false, false, false, false, false] = true := by kernel_rfl
theorem ru12_16 : chk .any opsu12 28 [24, 21, 20, 19] #[true, true, true, true, true, true, true, true, true, true, true, true, true, true, true, true, false, false, false, false, false, false, false, false, false, false, false, false, false] 16 #[true, true, true, true, true, true, true, true, true, true, true, true, true, true, true, true, true, false, false, false, false, false, false, false, false, false, false, false, false] = true := by kernel_rfl
theorem ru12_17 : chk .any opsu12 28 [24, 21, 20, 19, 18] #[true, true, true, true, true, true, true, true, true, true, true, true, true, true, true, true, true, false, false, false, false, false, false, false, false, false, false, false, false] 17 #[true, true, true, true, true, true, true, true, true, true, true, true, true, true, true, true, true, true, false, false, false, false, false, false, false, false, false, false, false] = true := by kernel_rfl
theorem ru12_18 : chk .any opsu12 28 [24, 21, 20, 19] #[true, true, true, true, true, true, true, true, true, true, true, true, true, true, true, true, true, true, false, false, false, false, false, false, false, false, false, false, false] 18 #[true, true, true, true, true, true, true, true, true, true, true, true, true, true, true, true, true, true, true, false, false, false, false, false, false, false, false, false, false] = true := by kernel_rfl
theorem ru12_19 : chk .any opsu12 28 [24, 21, 20] #[true, true, true, true, true, true, true, true, true, true, true, true, true, true, true, true, true, true, true, false, false, false, false, false, false, false, false, false, false] 19 #[true, true, true, true, true, true, true, true, true, true, true, true, true, true, true, true, true, true, true, true, false, false, false, false, false, false, false, false, false] = true := by kernel_rfl
theorem ru12_20 : chk .any opsu12 28 [24, 21] #[true, true, true, true, true, true, true, true, true, true, true, true, true, true, true, true, true, true, true, true, false, false, false, false, false, false, false, false, false] 20 #[true, true, true, true, true, true, true, true, true, true, true, true, true, true, true, true, true, true, true, true, true, false, false, false, false, false, false, false, false] = true := by kernel_rfl
theorem ru12_21 : chk1 .any opsu12 #[true, true, true, true, true, true, true, true, true, true, true, true, true, true, true, true, true, true, true, true, true, false, false, false, false, false, false, false, false] 21 #[true, true, true, true, true, true, true, true, true, true, true, true, true, true, true, true, true, true, true, true, true, true, false, false, false, false, false, false, false] = true := by kernel_rfl
theorem ru12_22 : chk .any opsu12 28 [24, 23] #[true, true, true, true, true, true, true, true, true, true, true, true, true, true, true, true, true, true, true, true, true, true, false, false, false, false, false, false, false] 22 #[true, true, true, true, true, true, true, true, true, true, true, true, true, true, true, true, true, true, true, true, true, true, true, false, false, false, false, false, false] = true := by kernel_rfl
theorem ru12_23 : chk .any opsu12 28 [24] #[true, true, true, true, true, true, true, true, true, true, true, true, true, true, true, true, true, true, true, true, true, true, true, false, false, false, false, false, false] 23 #[true, true, true, true, true, true, true, true, true, true, true, true, true, true, true, true, true, true, true, true, true, true, true, true, false, false, false, false, false] = true := by kernel_rfl
theorem ru12_24 : chk .any opsu12 28 [] #[true, true, true, true, true, true, true, true, true, true, true, true, true, true, true, true, true, true, true, true, true, true, true, true, false, false, false, false, false] 24 #[true, true, true, true, true, true, true, true, true, true, true, true, true, true, true, true, true, true, true, true, true, true, true, true, true, false, false, false, false] = true := by kernel_rfl
theorem ru12_25 : chk .any opsu12 28 [27, 26] #[true, true, true, true, true, true, true, true, true, true, true, true, true, true, true, true, true, true, true, true, true, true, true, true, true, false, false, false, false] 25 #[true, true, true, true, true, true, true, true, true, true, true, true, true, true, true, true, true, true, true, true, true, true, true, true, true, true, false, false, false] = true := by kernel_rfl
theorem ru12_26 : chk .any opsu12 28 [27] #[true, true, true, true, true, true, true, true, true, true, true, true, true, true, true, true, true, true, true, true, true, true, true, true, true, true, false, false, false] 26 #[true, true, true, true, true, true, true, true, true, true, true, true, true, true, true, true, true, true, true, true, true, true, true, true, true, true, true, false, false] = true := by kernel_rfl
theorem ru12_27 : chk .any opsu12 28 [] #[true, true, true, true, true, true, true, true, true, true, true, true, true, true, true, true, true, true, true, true, true, true, true, true, true, true, true, false, false] 27 #[true, true, true, true, true, true, true, true, true, true, true, true, true, true, true, true, true, true, true, true, true, true, true, true, true, true, true, true, false] = true := by kernel_rfl
end

set_option maxRecDepth 100000 in
set_option maxHeartbeats 16000000 in
theorem Inside_walk (REL : Array Value) (P : List (Nat × Nat)) (lo hh : Nat → Nat) (sk : Nat → Nat → Sk) (hours i m : Nat) (st af wi si he lw lg lh Z s1 fm fe : Int) (w : World) (hIs : IsRel REL) (hm : m ≤ 9999) (haf : -9223372036854775808 ≤ af ∧ af ≤ 9223372036854775807) (hP : 1 ≤ P.length ∧ P.length ≤ 20) (hlo : ∀ k, k < P.length → lo k ≤ 1000000000000 ∧ hh k ≤ 1000000000000)
    (h12 : REL[12]? = some (.int .i64 lw)) (h13 : REL[13]? = some (.int .i64 lg)) (h14 : REL[14]? = some (.int .i64 lh)) (h15 : REL[15]? = some (.int .i64 (hours : Nat)))
    (hV : ∀ W, G w W → Calls Try.prog 12 #[.agg REL, .int .i64 (i : Nat), .int .i64 (m : Nat)] W (BoolPost W))
    (hS1 : ∀ W, G w W → Calls Try.prog 17 #[.agg REL, .int .i64 (i : Nat), .int .i64 (m : Nat)] W fun e w' => e = .returned (.tuple #[.int .i64 s1, .int .i64 Z]) ∧ G W w')
    (hW : ∀ W, G w W → Calls Try.prog 14 #[.agg REL, .int .i64 (i : Nat)] W (WayPost W P)) (hPs : ∀ W, G w W → Calls Try.prog 15 #[.agg REL, .int .i64 (i : Nat), .int .i64 (m : Nat)] W (PsPost W P.length lo hh))
    (hWe : Z = 0 → ∀ k t W, k < P.length → t < hours → G w W → Calls Try.prog 19 #[.agg REL, .agg #[.int .i64 ((P.getD k (0, 0)).1 : Nat), .int .i64 ((P.getD k (0, 0)).2 : Nat)], .int .i64 (t : Nat)] W fun e w' => e = .returned (.tuple #[.agg (sk k t).v, .int .i64 0]) ∧ G W w')
    (hF : ∀ W, G w W → Calls Try.prog 20 #[.agg REL, .int .i64 (m : Nat), .int .i64 (m : Nat)] W fun e w' => e = .returned (.tuple #[.int .i64 fm, .int .i64 fe]) ∧ G W w')
    (hfin : Z = 3 ∨ (Z = 0 ∧ (1 ≤ s1 ∧ s1 ≤ 3) ∧ ((fe = 0 ∧ fm = (m : Nat)) ∨ fe = 3) ∧ (s1 ≠ 1 → fe = 3) ∧ (s1 = 1 → ∀ k T : Nat, k < P.length → lo k ≤ T → T ≤ hh k → (T / 60 < hours → (sk k (T / 60)).wh ≤ lw ∧ lg ≤ (sk k (T / 60)).sl ∧ (sk k (T / 60)).hh ≤ lh) ∧ (hours ≤ T / 60 → lw = 999 ∧ lg = 0 ∧ lh = 999)))) :
    Calls Try.prog 5 #[.agg REL, .agg #[.int .i64 (i : Nat), .int .i64 (m : Nat), .int .i64 st, .int .i64 af, .int .i64 wi, .int .i64 si, .int .i64 he]] w fun e w' => e = .returned (.bool true) ∧ G w w' := by
  have HIS := Lib.hid hIs
  have HV := Lib.hid hV
  have HS1 := Lib.hid hS1
  have HW := Lib.hid hW
  have HPS := Lib.hid hPs
  have HWE := Lib.hid hWe
  have HF := Lib.hid hF
  have HFIN := Lib.hid hfin
  have HLO := Lib.hid hlo
  have HWK := Lib.hid (fun W : World => works_any W)
  clear hIs hV hS1 hW hPs hWe hF hfin hlo
  have g0 : G w ((w.alloc (.cells REL 35)).alloc (.cells #[.int .i64 (i : Nat), .int .i64 (m : Nat), .int .i64 st, .int .i64 af, .int .i64 wi, .int .i64 si, .int .i64 he] 51)) := ((G.rf _).a _).a _
  have b0 : Blk ((w.alloc (.cells REL 35)).alloc (.cells #[.int .i64 (i : Nat), .int .i64 (m : Nat), .int .i64 st, .int .i64 af, .int .i64 wi, .int .i64 si, .int .i64 he] 51)) w.heap.size 35 REL := (Blk.new w 35 REL).keep ((G.rf _).a _)
  have c0 : Blk ((w.alloc (.cells REL 35)).alloc (.cells #[.int .i64 (i : Nat), .int .i64 (m : Nat), .int .i64 st, .int .i64 af, .int .i64 wi, .int .i64 si, .int .i64 he] 51)) (w.heap.size + 1) 51 #[.int .i64 (i : Nat), .int .i64 (m : Nat), .int .i64 st, .int .i64 af, .int .i64 wi, .int .i64 si, .int .i64 he] := by
    have := Blk.new (w.alloc (.cells REL 35)) 51 #[.int .i64 (i : Nat), .int .i64 (m : Nat), .int .i64 st, .int .i64 af, .int .i64 wi, .int .i64 si, .int .i64 he]
    rwa [show (w.alloc (.cells REL 35)).heap.size = w.heap.size + 1 by simp] at this
  go_enter Try.func5, Try.ntmps5
  go_upto_region 1 with fail
  change Code.wp _ _ _ _ ((w.alloc (.cells REL 35)).alloc (.cells #[.int .i64 (i : Nat), .int .i64 (m : Nat), .int .i64 st, .int .i64 af, .int .i64 wi, .int .i64 si, .int .i64 he] 51))
  generalize (w.alloc (.cells REL 35)).alloc (.cells #[.int .i64 (i : Nat), .int .i64 (m : Nat), .int .i64 st, .int .i64 af, .int .i64 wi, .int .i64 si, .int .i64 he] 51) = w1 at *
  have x0 : w1.cell? ⟨w.heap.size + 1, 0, none⟩ = some (.int .i64 (i : Nat)) := c0.cell 0
  have x1 : w1.cell? ⟨w.heap.size + 1, 1, none⟩ = some (.int .i64 (m : Nat)) := c0.cell 1
  have lx := c0.lt
  refine wp_region_lit ?_
  refine wpList_load35 w.heap.size 2 HIS.out rfl rfl rfl b0 ?_
  try simp only [Act.put, List.getElem_toArray, List.getElem_cons_zero, List.getElem_cons_succ, List.setIfInBounds_toArray, List.set_cons_zero, List.set_cons_succ]
  refine wpList_plain rfl fun K hK => ?_
  go_simp
  refine hK _ _ ?_
  clear hK
  try simp only [Act.put, List.getElem_toArray, List.getElem_cons_zero, List.getElem_cons_succ, List.setIfInBounds_toArray, List.set_cons_zero, List.set_cons_succ]
  refine wpList_plain rfl fun K hK => ?_
  go_simp
  refine hK _ _ ?_
  clear hK
  try simp only [Act.put, List.getElem_toArray, List.getElem_cons_zero, List.getElem_cons_succ, List.setIfInBounds_toArray, List.set_cons_zero, List.set_cons_succ]
  refine wpList_plain rfl fun K hK => ?_
  go_simp
  refine hK _ _ ?_
  clear hK
  try simp only [Act.put, List.getElem_toArray, List.getElem_cons_zero, List.getElem_cons_succ, List.setIfInBounds_toArray, List.set_cons_zero, List.set_cons_succ]
  refine wpList_plain rfl fun K hK => ?_
  go_simp
  refine hK _ _ ?_
  clear hK
  try simp only [Act.put, List.getElem_toArray, List.getElem_cons_zero, List.getElem_cons_succ, List.setIfInBounds_toArray, List.set_cons_zero, List.set_cons_succ]
  refine wpList_plain rfl fun K hK => ?_
  go_simp
  refine (HV.out _ g0).mono ?_
  rintro e wc ⟨bb, rfl, hG2⟩
  refine hK _ _ ?_
  clear hK K
  try simp only [Act.put, List.getElem_toArray, List.getElem_cons_zero, List.getElem_cons_succ, List.setIfInBounds_toArray, List.set_cons_zero, List.set_cons_succ]
  clear HV x0 x1 lx
  replace b0 := b0.keep hG2
  replace c0 := c0.keep hG2
  replace g0 := g0.t hG2
  clear hG2
  cases bb
  · go_wp2_with (go_at_call 13; refine (HWK.out _).mono ?_; rintro e w9 ⟨rfl, hG9⟩)
    go_ret
    exact ⟨rfl, g0.t hG9⟩
  go_upto_region 3 with fail
  have x0 : wc.cell? ⟨w.heap.size + 1, 0, none⟩ = some (.int .i64 (i : Nat)) := c0.cell 0
  have x1 : wc.cell? ⟨w.heap.size + 1, 1, none⟩ = some (.int .i64 (m : Nat)) := c0.cell 1
  have lx := c0.lt
  refine wp_region_lit ?_
  refine wpList_load35 w.heap.size 2 HIS.out rfl rfl rfl b0 ?_
  try simp only [Act.put, List.getElem_toArray, List.getElem_cons_zero, List.getElem_cons_succ, List.setIfInBounds_toArray, List.set_cons_zero, List.set_cons_succ]
  go_upto_region 4 with (go_at_call 17; refine (HS1.out _ g0).mono ?_; rintro e wn ⟨rfl, hGn⟩)
  clear x0 x1 lx
  replace b0 := b0.keep hGn
  replace c0 := c0.keep hGn
  replace g0 := g0.t hGn
  clear hGn
  obtain ⟨wc, rfl⟩ : ∃ wc, wc = wn := ⟨_, rfl⟩
  have x0 : wc.cell? ⟨w.heap.size + 1, 0, none⟩ = some (.int .i64 (i : Nat)) := c0.cell 0
  have lx := c0.lt
  refine wp_region_lit ?_
  refine wpList_load35 w.heap.size 2 HIS.out rfl rfl rfl b0 ?_
  try simp only [Act.put, List.getElem_toArray, List.getElem_cons_zero, List.getElem_cons_succ, List.setIfInBounds_toArray, List.set_cons_zero, List.set_cons_succ]
  go_upto_region 5 with (go_at_call 14; refine (HW.out _ g0).mono ?_; rintro e wn ⟨vP, rfl, hown, hGn⟩; obtain ⟨gP, capP, eP, hgP, hpt⟩ := pts_own rfl hown (by omega); subst eP; clear hown)
  clear x0 lx
  replace b0 := b0.keep hGn
  replace c0 := c0.keep hGn
  replace g0 := g0.t hGn
  clear hGn
  obtain ⟨wc, rfl⟩ : ∃ wc, wc = wn := ⟨_, rfl⟩
  obtain ⟨N, hN⟩ : ∃ N, N = P.length := ⟨_, rfl⟩
  have hN0 : ((N : Int) == 0) = false := by simp; omega
  have hNN : ((N : Int) != N) = false := by simp
  have HNP := Lib.hid hN
  rw [← hN] at hP HPS HWE HFIN HLO ⊢
  clear hN
  have HPT := Lib.hid hpt
  clear hpt
  have x0 : wc.cell? ⟨w.heap.size + 1, 0, none⟩ = some (.int .i64 (i : Nat)) := c0.cell 0
  have x1 : wc.cell? ⟨w.heap.size + 1, 1, none⟩ = some (.int .i64 (m : Nat)) := c0.cell 1
  have lx := c0.lt
  refine wp_region_lit ?_
  refine wpList_load35 w.heap.size 2 HIS.out rfl rfl rfl b0 ?_
  try simp only [Act.put, List.getElem_toArray, List.getElem_cons_zero, List.getElem_cons_succ, List.setIfInBounds_toArray, List.set_cons_zero, List.set_cons_succ]
  go_upto_region 6 with (go_at_call 15; refine (HPS.out _ g0).mono ?_; rintro e wn ⟨gS, capS, rfl, hgS, hsp, hGn⟩)
  clear x0 x1 lx
  replace b0 := b0.keep hGn
  replace c0 := c0.keep hGn
  replace g0 := g0.t hGn
  have HPT2 := Lib.hid (HPT.out.keep hgP hGn)
  replace hgP := Nat.lt_of_lt_of_le hgP hGn.size
  clear HPT
  clear hGn
  obtain ⟨wc, rfl⟩ : ∃ wc, wc = wn := ⟨_, rfl⟩
  have HSP := Lib.hid hsp
  clear hsp HPS HW HS1
  rcases HFIN.out with rfl | ⟨rfl, ⟨q1, q2⟩, hfe, hne1, hin1⟩
  · go_wp2_with (go_at_call 13; refine (HWK.out _).mono ?_; rintro e w9 ⟨rfl, hG9⟩)
    go_ret
    exact ⟨rfl, g0.t hG9⟩
  have HWE0 := Lib.hid (HWE.out rfl)
  have HFE := Lib.hid hfe
  have HNE1 := Lib.hid hne1
  have HIN1 := Lib.hid hin1
  clear hfe hne1 hin1 HFIN HWE
  have t1 : decide (s1 < 1) = false := decide_eq_false (by omega)
  have t2 : decide (3 < s1) = false := decide_eq_false (by omega)
  have t3 : ¬ s1 < 1 := by omega
  have t4 : ¬ 3 < s1 := by omega
  go_upto_region 12 with fail
  clear t1 t2 t3 t4 hN0 hNN
  by_cases ha : st < 0
  · have u1 : decide (st < 0) = true := decide_eq_true ha
    have hSk : Hid (∀ W', G wc W' → Blk W' (w.heap.size + 1) 51 #[.int .i64 (i : Nat), .int .i64 (m : Nat), .int .i64 st, .int .i64 af, .int .i64 wi, .int .i64 si, .int .i64 he]) := fun W' h => c0.keep h
    refine wp_region_Y (S := fun W' => Blk W' (w.heap.size + 1) 51 #[.int .i64 (i : Nat), .int .i64 (m : Nat), .int .i64 st, .int .i64 af, .int .i64 wi, .int .i64 si, .int .i64 he]) 28 29 rfl (by kernel_rfl) (hSk.out _ (G.rf _).d) (fun hS => ?_)
    have ga := (G.rf wc).d
    change wpAnyY _ _ opsu12 _ _ _ 29 #[false, false, false, false, false, false, false, false, false, false, false, false, false, false, false, false, false, false, false, false, false, false, false, false, false, false, false, false, false] _ _
    refine wpAnyY_takeC (v := ?_) [24, 23, 10, 3, 2, 1] ru12_0 ru12o_0 (fun _ _ _ h => h) (Or.inl ⟨by kernel_rfl, ?_⟩) hS ?_
    rotate_left
    · intro w' hSw; go_simp; with_reducible rfl
    try simp only [Act.put, List.getElem_toArray, List.getElem_cons_zero, List.getElem_cons_succ, List.setIfInBounds_toArray, List.set_cons_zero, List.set_cons_succ]
    refine wpAnyY_takeC (v := ?_) [24, 23, 10, 3, 2] ru12_1 ru12o_1 (fun _ _ _ h => h) (Or.inl ⟨by kernel_rfl, ?_⟩) hS ?_
    rotate_left
    · intro w' hSw; have x2 := hSw.cell 2; have lx := hSw.lt; go_simp; with_reducible rfl
    try simp only [Act.put, List.getElem_toArray, List.getElem_cons_zero, List.getElem_cons_succ, List.setIfInBounds_toArray, List.set_cons_zero, List.set_cons_succ]
    refine wpAnyY_takeC (v := ?_) [24, 23, 10, 3] ru12_2 ru12o_2 (fun _ _ _ h => h) (Or.inl ⟨by kernel_rfl, ?_⟩) hS ?_
    rotate_left
    · intro w' hSw; go_simp; with_reducible rfl
    try simp only [Act.put, List.getElem_toArray, List.getElem_cons_zero, List.getElem_cons_succ, List.setIfInBounds_toArray, List.set_cons_zero, List.set_cons_succ]
    refine wpAnyY_takeC (v := ?_) [24, 23, 10] ru12_3 ru12o_3 (fun _ _ _ h => h) (Or.inl ⟨by kernel_rfl, ?_⟩) hS ?_
    rotate_left
    · intro w' hSw; go_simp; with_reducible rfl
    try simp only [Act.put, List.getElem_toArray, List.getElem_cons_zero, List.getElem_cons_succ, List.setIfInBounds_toArray, List.set_cons_zero, List.set_cons_succ]
    refine wpAnyY_takeC (v := undef) [24, 23, 10, 9, 8, 5] ru12_4 ru12o_4 (fun _ _ _ h => h) (Or.inr ⟨by kernel_rfl, rfl⟩) hS ?_
    try simp only [Act.put, List.getElem_toArray, List.getElem_cons_zero, List.getElem_cons_succ, List.setIfInBounds_toArray, List.set_cons_zero, List.set_cons_succ]
    refine wpAnyY_takeC (v := undef) [24, 23, 10, 9, 8] ru12_5 ru12o_5 (fun _ _ _ h => h) (Or.inr ⟨by kernel_rfl, rfl⟩) hS ?_
    try simp only [Act.put, List.getElem_toArray, List.getElem_cons_zero, List.getElem_cons_succ, List.setIfInBounds_toArray, List.set_cons_zero, List.set_cons_succ]
    refine wpAnyY_takeC (v := undef) [24, 23, 10, 9, 8, 7] ru12_6 ru12o_6 (fun _ _ _ h => h) (Or.inr ⟨by kernel_rfl, rfl⟩) hS ?_
    try simp only [Act.put, List.getElem_toArray, List.getElem_cons_zero, List.getElem_cons_succ, List.setIfInBounds_toArray, List.set_cons_zero, List.set_cons_succ]
    refine wpAnyY_takeC (v := undef) [24, 23, 10, 9, 8] ru12_7 ru12o_7 (fun _ _ _ h => h) (Or.inr ⟨by kernel_rfl, rfl⟩) hS ?_
    try simp only [Act.put, List.getElem_toArray, List.getElem_cons_zero, List.getElem_cons_succ, List.setIfInBounds_toArray, List.set_cons_zero, List.set_cons_succ]
    refine wpAnyY_takeC (v := undef) [24, 23, 10, 9] ru12_8 ru12o_8 (fun _ _ _ h => h) (Or.inr ⟨by kernel_rfl, rfl⟩) hS ?_
    try simp only [Act.put, List.getElem_toArray, List.getElem_cons_zero, List.getElem_cons_succ, List.setIfInBounds_toArray, List.set_cons_zero, List.set_cons_succ]
    refine wpAnyY_takeC (v := ?_) [24, 23, 10] ru12_9 ru12o_9 (fun _ _ _ h => h) (Or.inl ⟨by kernel_rfl, ?_⟩) hS ?_
    rotate_left
    · intro w' hSw; go_simp; with_reducible rfl
    try simp only [Act.put, List.getElem_toArray, List.getElem_cons_zero, List.getElem_cons_succ, List.setIfInBounds_toArray, List.set_cons_zero, List.set_cons_succ]
    refine wpAnyY_takeC (v := ?_) [24, 23] ru12_10 ru12o_10 (fun _ _ _ h => h) (Or.inl ⟨by kernel_rfl, ?_⟩) hS ?_
    rotate_left
    · intro w' hSw; go_simp; with_reducible rfl
    try simp only [Act.put, List.getElem_toArray, List.getElem_cons_zero, List.getElem_cons_succ, List.setIfInBounds_toArray, List.set_cons_zero, List.set_cons_succ]
    refine wpAnyY_takeC (v := undef) [24, 21, 15, 12] ru12_11 ru12o_11 (fun _ _ _ h => h) (Or.inr ⟨by kernel_rfl, rfl⟩) hS ?_
    try simp only [Act.put, List.getElem_toArray, List.getElem_cons_zero, List.getElem_cons_succ, List.setIfInBounds_toArray, List.set_cons_zero, List.set_cons_succ]
    refine wpAnyY_takeC (v := undef) [24, 21, 15] ru12_12 ru12o_12 (fun _ _ _ h => h) (Or.inr ⟨by kernel_rfl, rfl⟩) hS ?_
    try simp only [Act.put, List.getElem_toArray, List.getElem_cons_zero, List.getElem_cons_succ, List.setIfInBounds_toArray, List.set_cons_zero, List.set_cons_succ]
    refine wpAnyY_takeC (v := undef) [24, 21, 15, 14] ru12_13 ru12o_13 (fun _ _ _ h => h) (Or.inr ⟨by kernel_rfl, rfl⟩) hS ?_
    try simp only [Act.put, List.getElem_toArray, List.getElem_cons_zero, List.getElem_cons_succ, List.setIfInBounds_toArray, List.set_cons_zero, List.set_cons_succ]
    refine wpAnyY_takeC (v := undef) [24, 21, 15] ru12_14 ru12o_14 (fun _ _ _ h => h) (Or.inr ⟨by kernel_rfl, rfl⟩) hS ?_
    try simp only [Act.put, List.getElem_toArray, List.getElem_cons_zero, List.getElem_cons_succ, List.setIfInBounds_toArray, List.set_cons_zero, List.set_cons_succ]
    refine wpAnyY_takeC (v := undef) [24, 21] ru12_15 ru12o_15 (fun _ _ _ h => h) (Or.inr ⟨by kernel_rfl, rfl⟩) hS ?_
    try simp only [Act.put, List.getElem_toArray, List.getElem_cons_zero, List.getElem_cons_succ, List.setIfInBounds_toArray, List.set_cons_zero, List.set_cons_succ]
    refine wpAnyY_takeC (v := undef) [24, 21, 20, 19] ru12_16 ru12o_16 (fun _ _ _ h => h) (Or.inr ⟨by kernel_rfl, rfl⟩) hS ?_
    try simp only [Act.put, List.getElem_toArray, List.getElem_cons_zero, List.getElem_cons_succ, List.setIfInBounds_toArray, List.set_cons_zero, List.set_cons_succ]
    refine wpAnyY_takeC (v := undef) [24, 21, 20, 19, 18] ru12_17 ru12o_17 (fun _ _ _ h => h) (Or.inr ⟨by kernel_rfl, rfl⟩) hS ?_
    try simp only [Act.put, List.getElem_toArray, List.getElem_cons_zero, List.getElem_cons_succ, List.setIfInBounds_toArray, List.set_cons_zero, List.set_cons_succ]
    refine wpAnyY_takeC (v := undef) [24, 21, 20, 19] ru12_18 ru12o_18 (fun _ _ _ h => h) (Or.inr ⟨by kernel_rfl, rfl⟩) hS ?_
    try simp only [Act.put, List.getElem_toArray, List.getElem_cons_zero, List.getElem_cons_succ, List.setIfInBounds_toArray, List.set_cons_zero, List.set_cons_succ]
    refine wpAnyY_takeC (v := undef) [24, 21, 20] ru12_19 ru12o_19 (fun _ _ _ h => h) (Or.inr ⟨by kernel_rfl, rfl⟩) hS ?_
    try simp only [Act.put, List.getElem_toArray, List.getElem_cons_zero, List.getElem_cons_succ, List.setIfInBounds_toArray, List.set_cons_zero, List.set_cons_succ]
    refine wpAnyY_takeC (v := undef) [24, 21] ru12_20 ru12o_20 (fun _ _ _ h => h) (Or.inr ⟨by kernel_rfl, rfl⟩) hS ?_
    try simp only [Act.put, List.getElem_toArray, List.getElem_cons_zero, List.getElem_cons_succ, List.setIfInBounds_toArray, List.set_cons_zero, List.set_cons_succ]
    refine wpAnyY_oneSUC ru12_21 ru12o_21 (by kernel_rfl) hS ?_
    try simp only [Act.put, List.getElem_toArray, List.getElem_cons_zero, List.getElem_cons_succ, List.setIfInBounds_toArray, List.set_cons_zero, List.set_cons_succ]
    refine wpAnyY_takeC (v := undef) [24, 23] ru12_22 ru12o_22 (fun _ _ _ h => h) (Or.inr ⟨by kernel_rfl, rfl⟩) hS ?_
    try simp only [Act.put, List.getElem_toArray, List.getElem_cons_zero, List.getElem_cons_succ, List.setIfInBounds_toArray, List.set_cons_zero, List.set_cons_succ]
    refine wpAnyY_takeC (v := ?_) [24] ru12_23 ru12o_23 (fun _ _ _ h => h) (Or.inl ⟨by kernel_rfl, ?_⟩) hS ?_
    rotate_left
    · intro w' hSw; go_simp; with_reducible rfl
    try simp only [Act.put, List.getElem_toArray, List.getElem_cons_zero, List.getElem_cons_succ, List.setIfInBounds_toArray, List.set_cons_zero, List.set_cons_succ]
    refine wpAnyY_takeC (v := ?_) [] ru12_24 ru12o_24 (fun _ _ _ h => h) (Or.inl ⟨by kernel_rfl, ?_⟩) hS ?_
    rotate_left
    · intro w' hSw; go_simp; with_reducible rfl
    try simp only [Act.put, List.getElem_toArray, List.getElem_cons_zero, List.getElem_cons_succ, List.setIfInBounds_toArray, List.set_cons_zero, List.set_cons_succ]
    refine wpAnyY_takeC (v := undef) [27, 26] ru12_25 ru12o_25 (fun _ _ _ h => h) (Or.inr ⟨by kernel_rfl, rfl⟩) hS ?_
    try simp only [Act.put, List.getElem_toArray, List.getElem_cons_zero, List.getElem_cons_succ, List.setIfInBounds_toArray, List.set_cons_zero, List.set_cons_succ]
    refine wpAnyY_takeC (v := undef) [27] ru12_26 ru12o_26 (fun _ _ _ h => h) (Or.inr ⟨by kernel_rfl, rfl⟩) hS ?_
    try simp only [Act.put, List.getElem_toArray, List.getElem_cons_zero, List.getElem_cons_succ, List.setIfInBounds_toArray, List.set_cons_zero, List.set_cons_succ]
    refine wpAnyY_takeC (v := undef) [] ru12_27 ru12o_27 (fun _ _ _ h => h) (Or.inr ⟨by kernel_rfl, rfl⟩) hS ?_
    try simp only [Act.put, List.getElem_toArray, List.getElem_cons_zero, List.getElem_cons_succ, List.setIfInBounds_toArray, List.set_cons_zero, List.set_cons_succ]
    refine wpAnyY_oneW (i := 28) (by kernel_rfl) ru12o_28 (by kernel_rfl) (by kernel_rfl) (fun K28 hK28 => ?_)
    go_simp
    refine hK28.out _ _ ?_
    try simp only [Act.put, List.getElem_toArray, List.getElem_cons_zero, List.getElem_cons_succ, List.setIfInBounds_toArray, List.set_cons_zero, List.set_cons_succ]
    refine wpAnyY_done (by kernel_rfl) ?_ _
    clear hS hSk
    replace g0 := g0.t ga
    go_wp2_with (go_at_call 13; refine (HWK.out _).mono ?_; rintro e w9 ⟨rfl, hG9⟩)
    go_ret
    exact ⟨rfl, g0.t hG9⟩
  have u1 : decide (st < 0) = false := decide_eq_false ha
  by_cases hb : (N : Int) ≤ st
  · have u2 : decide ((N : Int) ≤ st) = true := decide_eq_true hb
    have hSk : Hid (∀ W', G wc W' → Blk W' (w.heap.size + 1) 51 #[.int .i64 (i : Nat), .int .i64 (m : Nat), .int .i64 st, .int .i64 af, .int .i64 wi, .int .i64 si, .int .i64 he]) := fun W' h => c0.keep h
    refine wp_region_Y (S := fun W' => Blk W' (w.heap.size + 1) 51 #[.int .i64 (i : Nat), .int .i64 (m : Nat), .int .i64 st, .int .i64 af, .int .i64 wi, .int .i64 si, .int .i64 he]) 28 29 rfl (by kernel_rfl) (hSk.out _ (G.rf _).d) (fun hS => ?_)
    have ga := (G.rf wc).d
    change wpAnyY _ _ opsu12 _ _ _ 29 #[false, false, false, false, false, false, false, false, false, false, false, false, false, false, false, false, false, false, false, false, false, false, false, false, false, false, false, false, false] _ _
    refine wpAnyY_takeC (v := ?_) [24, 23, 10, 3, 2, 1] ru12_0 ru12o_0 (fun _ _ _ h => h) (Or.inl ⟨by kernel_rfl, ?_⟩) hS ?_
    rotate_left
    · intro w' hSw; go_simp; with_reducible rfl
    try simp only [Act.put, List.getElem_toArray, List.getElem_cons_zero, List.getElem_cons_succ, List.setIfInBounds_toArray, List.set_cons_zero, List.set_cons_succ]
    refine wpAnyY_takeC (v := ?_) [24, 23, 10, 3, 2] ru12_1 ru12o_1 (fun _ _ _ h => h) (Or.inl ⟨by kernel_rfl, ?_⟩) hS ?_
    rotate_left
    · intro w' hSw; have x2 := hSw.cell 2; have lx := hSw.lt; go_simp; with_reducible rfl
    try simp only [Act.put, List.getElem_toArray, List.getElem_cons_zero, List.getElem_cons_succ, List.setIfInBounds_toArray, List.set_cons_zero, List.set_cons_succ]
    refine wpAnyY_takeC (v := ?_) [24, 23, 10, 3] ru12_2 ru12o_2 (fun _ _ _ h => h) (Or.inl ⟨by kernel_rfl, ?_⟩) hS ?_
    rotate_left
    · intro w' hSw; go_simp; with_reducible rfl
    try simp only [Act.put, List.getElem_toArray, List.getElem_cons_zero, List.getElem_cons_succ, List.setIfInBounds_toArray, List.set_cons_zero, List.set_cons_succ]
    refine wpAnyY_takeC (v := ?_) [24, 23, 10] ru12_3 ru12o_3 (fun _ _ _ h => h) (Or.inl ⟨by kernel_rfl, ?_⟩) hS ?_
    rotate_left
    · intro w' hSw; go_simp; with_reducible rfl
    try simp only [Act.put, List.getElem_toArray, List.getElem_cons_zero, List.getElem_cons_succ, List.setIfInBounds_toArray, List.set_cons_zero, List.set_cons_succ]
    refine wpAnyY_takeC (v := ?_) [24, 23, 10, 9, 8, 5] ru12_4 ru12o_4 (fun _ _ _ h => h) (Or.inl ⟨by kernel_rfl, ?_⟩) hS ?_
    rotate_left
    · intro w' hSw; go_simp; with_reducible rfl
    try simp only [Act.put, List.getElem_toArray, List.getElem_cons_zero, List.getElem_cons_succ, List.setIfInBounds_toArray, List.set_cons_zero, List.set_cons_succ]
    refine wpAnyY_takeC (v := ?_) [24, 23, 10, 9, 8] ru12_5 ru12o_5 (fun _ _ _ h => h) (Or.inl ⟨by kernel_rfl, ?_⟩) hS ?_
    rotate_left
    · intro w' hSw; have x2 := hSw.cell 2; have lx := hSw.lt; go_simp; with_reducible rfl
    try simp only [Act.put, List.getElem_toArray, List.getElem_cons_zero, List.getElem_cons_succ, List.setIfInBounds_toArray, List.set_cons_zero, List.set_cons_succ]
    refine wpAnyY_takeC (v := ?_) [24, 23, 10, 9, 8, 7] ru12_6 ru12o_6 (fun _ _ _ h => h) (Or.inl ⟨by kernel_rfl, ?_⟩) hS ?_
    rotate_left
    · intro w' hSw; go_simp; with_reducible rfl
    try simp only [Act.put, List.getElem_toArray, List.getElem_cons_zero, List.getElem_cons_succ, List.setIfInBounds_toArray, List.set_cons_zero, List.set_cons_succ]
    refine wpAnyY_takeC (v := ?_) [24, 23, 10, 9, 8] ru12_7 ru12o_7 (fun _ _ _ h => h) (Or.inl ⟨by kernel_rfl, ?_⟩) hS ?_
    rotate_left
    · intro w' hSw; go_simp; with_reducible rfl
    try simp only [Act.put, List.getElem_toArray, List.getElem_cons_zero, List.getElem_cons_succ, List.setIfInBounds_toArray, List.set_cons_zero, List.set_cons_succ]
    refine wpAnyY_takeC (v := ?_) [24, 23, 10, 9] ru12_8 ru12o_8 (fun _ _ _ h => h) (Or.inl ⟨by kernel_rfl, ?_⟩) hS ?_
    rotate_left
    · intro w' hSw; go_simp; with_reducible rfl
    try simp only [Act.put, List.getElem_toArray, List.getElem_cons_zero, List.getElem_cons_succ, List.setIfInBounds_toArray, List.set_cons_zero, List.set_cons_succ]
    refine wpAnyY_takeC (v := ?_) [24, 23, 10] ru12_9 ru12o_9 (fun _ _ _ h => h) (Or.inl ⟨by kernel_rfl, ?_⟩) hS ?_
    rotate_left
    · intro w' hSw; go_simp; with_reducible rfl
    try simp only [Act.put, List.getElem_toArray, List.getElem_cons_zero, List.getElem_cons_succ, List.setIfInBounds_toArray, List.set_cons_zero, List.set_cons_succ]
    refine wpAnyY_takeC (v := ?_) [24, 23] ru12_10 ru12o_10 (fun _ _ _ h => h) (Or.inl ⟨by kernel_rfl, ?_⟩) hS ?_
    rotate_left
    · intro w' hSw; go_simp; with_reducible rfl
    try simp only [Act.put, List.getElem_toArray, List.getElem_cons_zero, List.getElem_cons_succ, List.setIfInBounds_toArray, List.set_cons_zero, List.set_cons_succ]
    refine wpAnyY_takeC (v := undef) [24, 21, 15, 12] ru12_11 ru12o_11 (fun _ _ _ h => h) (Or.inr ⟨by kernel_rfl, rfl⟩) hS ?_
    try simp only [Act.put, List.getElem_toArray, List.getElem_cons_zero, List.getElem_cons_succ, List.setIfInBounds_toArray, List.set_cons_zero, List.set_cons_succ]
    refine wpAnyY_takeC (v := undef) [24, 21, 15] ru12_12 ru12o_12 (fun _ _ _ h => h) (Or.inr ⟨by kernel_rfl, rfl⟩) hS ?_
    try simp only [Act.put, List.getElem_toArray, List.getElem_cons_zero, List.getElem_cons_succ, List.setIfInBounds_toArray, List.set_cons_zero, List.set_cons_succ]
    refine wpAnyY_takeC (v := undef) [24, 21, 15, 14] ru12_13 ru12o_13 (fun _ _ _ h => h) (Or.inr ⟨by kernel_rfl, rfl⟩) hS ?_
    try simp only [Act.put, List.getElem_toArray, List.getElem_cons_zero, List.getElem_cons_succ, List.setIfInBounds_toArray, List.set_cons_zero, List.set_cons_succ]
    refine wpAnyY_takeC (v := undef) [24, 21, 15] ru12_14 ru12o_14 (fun _ _ _ h => h) (Or.inr ⟨by kernel_rfl, rfl⟩) hS ?_
    try simp only [Act.put, List.getElem_toArray, List.getElem_cons_zero, List.getElem_cons_succ, List.setIfInBounds_toArray, List.set_cons_zero, List.set_cons_succ]
    refine wpAnyY_takeC (v := undef) [24, 21] ru12_15 ru12o_15 (fun _ _ _ h => h) (Or.inr ⟨by kernel_rfl, rfl⟩) hS ?_
    try simp only [Act.put, List.getElem_toArray, List.getElem_cons_zero, List.getElem_cons_succ, List.setIfInBounds_toArray, List.set_cons_zero, List.set_cons_succ]
    refine wpAnyY_takeC (v := undef) [24, 21, 20, 19] ru12_16 ru12o_16 (fun _ _ _ h => h) (Or.inr ⟨by kernel_rfl, rfl⟩) hS ?_
    try simp only [Act.put, List.getElem_toArray, List.getElem_cons_zero, List.getElem_cons_succ, List.setIfInBounds_toArray, List.set_cons_zero, List.set_cons_succ]
    refine wpAnyY_takeC (v := undef) [24, 21, 20, 19, 18] ru12_17 ru12o_17 (fun _ _ _ h => h) (Or.inr ⟨by kernel_rfl, rfl⟩) hS ?_
    try simp only [Act.put, List.getElem_toArray, List.getElem_cons_zero, List.getElem_cons_succ, List.setIfInBounds_toArray, List.set_cons_zero, List.set_cons_succ]
    refine wpAnyY_takeC (v := undef) [24, 21, 20, 19] ru12_18 ru12o_18 (fun _ _ _ h => h) (Or.inr ⟨by kernel_rfl, rfl⟩) hS ?_
    try simp only [Act.put, List.getElem_toArray, List.getElem_cons_zero, List.getElem_cons_succ, List.setIfInBounds_toArray, List.set_cons_zero, List.set_cons_succ]
    refine wpAnyY_takeC (v := undef) [24, 21, 20] ru12_19 ru12o_19 (fun _ _ _ h => h) (Or.inr ⟨by kernel_rfl, rfl⟩) hS ?_
    try simp only [Act.put, List.getElem_toArray, List.getElem_cons_zero, List.getElem_cons_succ, List.setIfInBounds_toArray, List.set_cons_zero, List.set_cons_succ]
    refine wpAnyY_takeC (v := undef) [24, 21] ru12_20 ru12o_20 (fun _ _ _ h => h) (Or.inr ⟨by kernel_rfl, rfl⟩) hS ?_
    try simp only [Act.put, List.getElem_toArray, List.getElem_cons_zero, List.getElem_cons_succ, List.setIfInBounds_toArray, List.set_cons_zero, List.set_cons_succ]
    refine wpAnyY_oneSUC ru12_21 ru12o_21 (by kernel_rfl) hS ?_
    try simp only [Act.put, List.getElem_toArray, List.getElem_cons_zero, List.getElem_cons_succ, List.setIfInBounds_toArray, List.set_cons_zero, List.set_cons_succ]
    refine wpAnyY_takeC (v := undef) [24, 23] ru12_22 ru12o_22 (fun _ _ _ h => h) (Or.inr ⟨by kernel_rfl, rfl⟩) hS ?_
    try simp only [Act.put, List.getElem_toArray, List.getElem_cons_zero, List.getElem_cons_succ, List.setIfInBounds_toArray, List.set_cons_zero, List.set_cons_succ]
    refine wpAnyY_takeC (v := ?_) [24] ru12_23 ru12o_23 (fun _ _ _ h => h) (Or.inl ⟨by kernel_rfl, ?_⟩) hS ?_
    rotate_left
    · intro w' hSw; go_simp; with_reducible rfl
    try simp only [Act.put, List.getElem_toArray, List.getElem_cons_zero, List.getElem_cons_succ, List.setIfInBounds_toArray, List.set_cons_zero, List.set_cons_succ]
    refine wpAnyY_takeC (v := ?_) [] ru12_24 ru12o_24 (fun _ _ _ h => h) (Or.inl ⟨by kernel_rfl, ?_⟩) hS ?_
    rotate_left
    · intro w' hSw; go_simp; with_reducible rfl
    try simp only [Act.put, List.getElem_toArray, List.getElem_cons_zero, List.getElem_cons_succ, List.setIfInBounds_toArray, List.set_cons_zero, List.set_cons_succ]
    refine wpAnyY_takeC (v := undef) [27, 26] ru12_25 ru12o_25 (fun _ _ _ h => h) (Or.inr ⟨by kernel_rfl, rfl⟩) hS ?_
    try simp only [Act.put, List.getElem_toArray, List.getElem_cons_zero, List.getElem_cons_succ, List.setIfInBounds_toArray, List.set_cons_zero, List.set_cons_succ]
    refine wpAnyY_takeC (v := undef) [27] ru12_26 ru12o_26 (fun _ _ _ h => h) (Or.inr ⟨by kernel_rfl, rfl⟩) hS ?_
    try simp only [Act.put, List.getElem_toArray, List.getElem_cons_zero, List.getElem_cons_succ, List.setIfInBounds_toArray, List.set_cons_zero, List.set_cons_succ]
    refine wpAnyY_takeC (v := undef) [] ru12_27 ru12o_27 (fun _ _ _ h => h) (Or.inr ⟨by kernel_rfl, rfl⟩) hS ?_
    try simp only [Act.put, List.getElem_toArray, List.getElem_cons_zero, List.getElem_cons_succ, List.setIfInBounds_toArray, List.set_cons_zero, List.set_cons_succ]
    refine wpAnyY_oneW (i := 28) (by kernel_rfl) ru12o_28 (by kernel_rfl) (by kernel_rfl) (fun K28 hK28 => ?_)
    go_simp
    refine hK28.out _ _ ?_
    try simp only [Act.put, List.getElem_toArray, List.getElem_cons_zero, List.getElem_cons_succ, List.setIfInBounds_toArray, List.set_cons_zero, List.set_cons_succ]
    refine wpAnyY_done (by kernel_rfl) ?_ _
    clear hS hSk
    replace g0 := g0.t ga
    go_wp2_with (go_at_call 13; refine (HWK.out _).mono ?_; rintro e w9 ⟨rfl, hG9⟩)
    go_ret
    exact ⟨rfl, g0.t hG9⟩
  obtain ⟨k, rfl⟩ : ∃ k : Nat, st = k := ⟨st.toNat, by omega⟩
  have hkN : k < N := by omega
  have hkN2 : (k : Int) < N := by omega
  have u2 : decide ((N : Int) ≤ (k : Int)) = false := decide_eq_false hb
  have u3 : decide (N ≤ k) = false := decide_eq_false (by omega)
  have u4 : ¬ N ≤ k := by omega
  obtain ⟨tv, htv⟩ : ∃ tv : Int, tv = IntKind.i64.wrap ((m : Int) + af) := ⟨_, rfl⟩
  have xa : IntKind.i64.wrap ((m : Int) + af) = tv := htv.symm
  have HTV := Lib.hid htv
  clear htv
  obtain ⟨sl0, sl1⟩ := HSP.out k hkN
  have hlk := HLO.out k hkN
  obtain ⟨ll, hll⟩ : ∃ x, x = lo k := ⟨_, rfl⟩
  obtain ⟨uu, huu⟩ : ∃ x, x = hh k := ⟨_, rfl⟩
  rw [← hll] at sl0 hlk
  rw [← huu] at sl1 hlk
  have hin1 := fun h1 T => HIN1.out h1 k T hkN
  rw [← hll, ← huu] at hin1
  have HIN := Lib.hid hin1
  clear hll huu hin1 HIN1 HLO HSP
  have hSk : Hid (∀ W', G wc W' → (Blk W' (w.heap.size + 1) 51 #[.int .i64 (i : Nat), .int .i64 (m : Nat), .int .i64 (k : Nat), .int .i64 af, .int .i64 wi, .int .i64 si, .int .i64 he] ∧ W'.cell? ⟨gS, k * 2, none⟩ = some (.int .i64 (ll : Nat)) ∧ W'.cell? ⟨gS, k * 2 + 1, none⟩ = some (.int .i64 (uu : Nat)))) := fun W' h => ⟨c0.keep h, ((bcellB h).1 gS _ hgS).trans sl0, ((bcellB h).1 gS _ hgS).trans sl1⟩
  clear sl0 sl1
  have HLI := Lib.hid (fun W : World => lawIn_any tv (ll : Nat) (uu : Nat) W)
  cases hbi : isInB tv (ll : Nat) (uu : Nat)
  · rw [hbi] at HLI
    clear hbi
    refine wp_region_Y (S := fun W' => Blk W' (w.heap.size + 1) 51 #[.int .i64 (i : Nat), .int .i64 (m : Nat), .int .i64 (k : Nat), .int .i64 af, .int .i64 wi, .int .i64 si, .int .i64 he] ∧ W'.cell? ⟨gS, k * 2, none⟩ = some (.int .i64 (ll : Nat)) ∧ W'.cell? ⟨gS, k * 2 + 1, none⟩ = some (.int .i64 (uu : Nat))) 28 29 rfl (by kernel_rfl) (hSk.out _ (G.rf _).d) (fun hS => ?_)
    have ga := (G.rf wc).d
    change wpAnyY _ _ opsu12 _ _ _ 29 #[false, false, false, false, false, false, false, false, false, false, false, false, false, false, false, false, false, false, false, false, false, false, false, false, false, false, false, false, false] _ _
    refine wpAnyY_takeC (v := ?_) [24, 23, 10, 3, 2, 1] ru12_0 ru12o_0 (fun _ _ _ h => h) (Or.inl ⟨by kernel_rfl, ?_⟩) hS ?_
    rotate_left
    · intro w' hSw; go_simp; with_reducible rfl
    try simp only [Act.put, List.getElem_toArray, List.getElem_cons_zero, List.getElem_cons_succ, List.setIfInBounds_toArray, List.set_cons_zero, List.set_cons_succ]
    refine wpAnyY_takeC (v := ?_) [24, 23, 10, 3, 2] ru12_1 ru12o_1 (fun _ _ _ h => h) (Or.inl ⟨by kernel_rfl, ?_⟩) hS ?_
    rotate_left
    · intro w' hSw; have x2 := hSw.1.cell 2; have lx := hSw.1.lt; go_simp; with_reducible rfl
    try simp only [Act.put, List.getElem_toArray, List.getElem_cons_zero, List.getElem_cons_succ, List.setIfInBounds_toArray, List.set_cons_zero, List.set_cons_succ]
    refine wpAnyY_takeC (v := ?_) [24, 23, 10, 3] ru12_2 ru12o_2 (fun _ _ _ h => h) (Or.inl ⟨by kernel_rfl, ?_⟩) hS ?_
    rotate_left
    · intro w' hSw; go_simp; with_reducible rfl
    try simp only [Act.put, List.getElem_toArray, List.getElem_cons_zero, List.getElem_cons_succ, List.setIfInBounds_toArray, List.set_cons_zero, List.set_cons_succ]
    refine wpAnyY_takeC (v := ?_) [24, 23, 10] ru12_3 ru12o_3 (fun _ _ _ h => h) (Or.inl ⟨by kernel_rfl, ?_⟩) hS ?_
    rotate_left
    · intro w' hSw; go_simp; with_reducible rfl
    try simp only [Act.put, List.getElem_toArray, List.getElem_cons_zero, List.getElem_cons_succ, List.setIfInBounds_toArray, List.set_cons_zero, List.set_cons_succ]
    refine wpAnyY_takeC (v := ?_) [24, 23, 10, 9, 8, 5] ru12_4 ru12o_4 (fun _ _ _ h => h) (Or.inl ⟨by kernel_rfl, ?_⟩) hS ?_
    rotate_left
    · intro w' hSw; go_simp; with_reducible rfl
    try simp only [Act.put, List.getElem_toArray, List.getElem_cons_zero, List.getElem_cons_succ, List.setIfInBounds_toArray, List.set_cons_zero, List.set_cons_succ]
    refine wpAnyY_takeC (v := ?_) [24, 23, 10, 9, 8] ru12_5 ru12o_5 (fun _ _ _ h => h) (Or.inl ⟨by kernel_rfl, ?_⟩) hS ?_
    rotate_left
    · intro w' hSw; have x2 := hSw.1.cell 2; have lx := hSw.1.lt; go_simp; with_reducible rfl
    try simp only [Act.put, List.getElem_toArray, List.getElem_cons_zero, List.getElem_cons_succ, List.setIfInBounds_toArray, List.set_cons_zero, List.set_cons_succ]
    refine wpAnyY_takeC (v := ?_) [24, 23, 10, 9, 8, 7] ru12_6 ru12o_6 (fun _ _ _ h => h) (Or.inl ⟨by kernel_rfl, ?_⟩) hS ?_
    rotate_left
    · intro w' hSw; go_simp; with_reducible rfl
    try simp only [Act.put, List.getElem_toArray, List.getElem_cons_zero, List.getElem_cons_succ, List.setIfInBounds_toArray, List.set_cons_zero, List.set_cons_succ]
    refine wpAnyY_takeC (v := ?_) [24, 23, 10, 9, 8] ru12_7 ru12o_7 (fun _ _ _ h => h) (Or.inl ⟨by kernel_rfl, ?_⟩) hS ?_
    rotate_left
    · intro w' hSw; go_simp; with_reducible rfl
    try simp only [Act.put, List.getElem_toArray, List.getElem_cons_zero, List.getElem_cons_succ, List.setIfInBounds_toArray, List.set_cons_zero, List.set_cons_succ]
    refine wpAnyY_takeC (v := ?_) [24, 23, 10, 9] ru12_8 ru12o_8 (fun _ _ _ h => h) (Or.inl ⟨by kernel_rfl, ?_⟩) hS ?_
    rotate_left
    · intro w' hSw; go_simp; with_reducible rfl
    try simp only [Act.put, List.getElem_toArray, List.getElem_cons_zero, List.getElem_cons_succ, List.setIfInBounds_toArray, List.set_cons_zero, List.set_cons_succ]
    refine wpAnyY_takeC (v := ?_) [24, 23, 10] ru12_9 ru12o_9 (fun _ _ _ h => h) (Or.inl ⟨by kernel_rfl, ?_⟩) hS ?_
    rotate_left
    · intro w' hSw; go_simp; with_reducible rfl
    try simp only [Act.put, List.getElem_toArray, List.getElem_cons_zero, List.getElem_cons_succ, List.setIfInBounds_toArray, List.set_cons_zero, List.set_cons_succ]
    refine wpAnyY_takeC (v := ?_) [24, 23] ru12_10 ru12o_10 (fun _ _ _ h => h) (Or.inl ⟨by kernel_rfl, ?_⟩) hS ?_
    rotate_left
    · intro w' hSw; go_simp; with_reducible rfl
    try simp only [Act.put, List.getElem_toArray, List.getElem_cons_zero, List.getElem_cons_succ, List.setIfInBounds_toArray, List.set_cons_zero, List.set_cons_succ]
    refine wpAnyY_takeC (v := ?_) [24, 21, 15, 12] ru12_11 ru12o_11 (fun _ _ _ h => h) (Or.inl ⟨by kernel_rfl, ?_⟩) hS ?_
    rotate_left
    · intro w' hSw; go_simp; with_reducible rfl
    try simp only [Act.put, List.getElem_toArray, List.getElem_cons_zero, List.getElem_cons_succ, List.setIfInBounds_toArray, List.set_cons_zero, List.set_cons_succ]
    refine wpAnyY_takeC (v := ?_) [24, 21, 15] ru12_12 ru12o_12 (fun _ _ _ h => h) (Or.inl ⟨by kernel_rfl, ?_⟩) hS ?_
    rotate_left
    · intro w' hSw; have x1 := hSw.1.cell 1; have lx := hSw.1.lt; go_simp; with_reducible rfl
    try simp only [Act.put, List.getElem_toArray, List.getElem_cons_zero, List.getElem_cons_succ, List.setIfInBounds_toArray, List.set_cons_zero, List.set_cons_succ]
    refine wpAnyY_takeC (v := ?_) [24, 21, 15, 14] ru12_13 ru12o_13 (fun _ _ _ h => h) (Or.inl ⟨by kernel_rfl, ?_⟩) hS ?_
    rotate_left
    · intro w' hSw; go_simp; with_reducible rfl
    try simp only [Act.put, List.getElem_toArray, List.getElem_cons_zero, List.getElem_cons_succ, List.setIfInBounds_toArray, List.set_cons_zero, List.set_cons_succ]
    refine wpAnyY_takeC (v := ?_) [24, 21, 15] ru12_14 ru12o_14 (fun _ _ _ h => h) (Or.inl ⟨by kernel_rfl, ?_⟩) hS ?_
    rotate_left
    · intro w' hSw; have x3 := hSw.1.cell 3; have lx := hSw.1.lt; go_simp; with_reducible rfl
    try simp only [Act.put, List.getElem_toArray, List.getElem_cons_zero, List.getElem_cons_succ, List.setIfInBounds_toArray, List.set_cons_zero, List.set_cons_succ]
    refine wpAnyY_takeC (v := ?_) [24, 21] ru12_15 ru12o_15 (fun _ _ _ h => h) (Or.inl ⟨by kernel_rfl, ?_⟩) hS ?_
    rotate_left
    · intro w' hSw; go_simp; with_reducible rfl
    try simp only [Act.put, List.getElem_toArray, List.getElem_cons_zero, List.getElem_cons_succ, List.setIfInBounds_toArray, List.set_cons_zero, List.set_cons_succ]
    refine wpAnyY_takeC (v := ?_) [24, 21, 20, 19] ru12_16 ru12o_16 (fun _ _ _ h => h) (Or.inl ⟨by kernel_rfl, ?_⟩) hS ?_
    rotate_left
    · intro w' hSw; go_simp; with_reducible rfl
    try simp only [Act.put, List.getElem_toArray, List.getElem_cons_zero, List.getElem_cons_succ, List.setIfInBounds_toArray, List.set_cons_zero, List.set_cons_succ]
    refine wpAnyY_takeC (v := ?_) [24, 21, 20, 19, 18] ru12_17 ru12o_17 (fun _ _ _ h => h) (Or.inl ⟨by kernel_rfl, ?_⟩) hS ?_
    rotate_left
    · intro w' hSw; go_simp; with_reducible rfl
    try simp only [Act.put, List.getElem_toArray, List.getElem_cons_zero, List.getElem_cons_succ, List.setIfInBounds_toArray, List.set_cons_zero, List.set_cons_succ]
    refine wpAnyY_takeC (v := ?_) [24, 21, 20, 19] ru12_18 ru12o_18 (fun _ _ _ h => h) (Or.inl ⟨by kernel_rfl, ?_⟩) hS ?_
    rotate_left
    · intro w' hSw; have x2 := hSw.1.cell 2; have lx := hSw.1.lt; go_simp; with_reducible rfl
    try simp only [Act.put, List.getElem_toArray, List.getElem_cons_zero, List.getElem_cons_succ, List.setIfInBounds_toArray, List.set_cons_zero, List.set_cons_succ]
    refine wpAnyY_takeC (v := ?_) [24, 21, 20] ru12_19 ru12o_19 (fun _ _ _ h => h) (Or.inl ⟨by kernel_rfl, ?_⟩) hS ?_
    rotate_left
    · intro w' hSw; go_simp; with_reducible rfl
    try simp only [Act.put, List.getElem_toArray, List.getElem_cons_zero, List.getElem_cons_succ, List.setIfInBounds_toArray, List.set_cons_zero, List.set_cons_succ]
    refine wpAnyY_takeC (v := ?_) [24, 21] ru12_20 ru12o_20 (fun _ _ _ h => h) (Or.inl ⟨by kernel_rfl, ?_⟩) hS ?_
    rotate_left
    · intro w' hSw; have s1 := hSw.2.1; have s2 := hSw.2.2; go_simp; with_reducible rfl
    try simp only [Act.put, List.getElem_toArray, List.getElem_cons_zero, List.getElem_cons_succ, List.setIfInBounds_toArray, List.set_cons_zero, List.set_cons_succ]
    refine wpAnyY_oneSWC ru12_21 ru12o_21 (by kernel_rfl) (fun K21 hK21 => ?_)
    go_simp
    refine (HLI.out _).mono ?_
    rintro e wd ⟨rfl, hG21⟩
    replace ga := ga.t hG21
    refine hK21.out _ _ (hSk.out _ ga) (fun hS => ?_)
    try simp only [Act.put, List.getElem_toArray, List.getElem_cons_zero, List.getElem_cons_succ, List.setIfInBounds_toArray, List.set_cons_zero, List.set_cons_succ]
    refine wpAnyY_takeC (v := ?_) [24, 23] ru12_22 ru12o_22 (fun _ _ _ h => h) (Or.inl ⟨by kernel_rfl, ?_⟩) hS ?_
    rotate_left
    · intro w' hSw; go_simp; with_reducible rfl
    try simp only [Act.put, List.getElem_toArray, List.getElem_cons_zero, List.getElem_cons_succ, List.setIfInBounds_toArray, List.set_cons_zero, List.set_cons_succ]
    refine wpAnyY_takeC (v := ?_) [24] ru12_23 ru12o_23 (fun _ _ _ h => h) (Or.inl ⟨by kernel_rfl, ?_⟩) hS ?_
    rotate_left
    · intro w' hSw; go_simp; with_reducible rfl
    try simp only [Act.put, List.getElem_toArray, List.getElem_cons_zero, List.getElem_cons_succ, List.setIfInBounds_toArray, List.set_cons_zero, List.set_cons_succ]
    refine wpAnyY_takeC (v := ?_) [] ru12_24 ru12o_24 (fun _ _ _ h => h) (Or.inl ⟨by kernel_rfl, ?_⟩) hS ?_
    rotate_left
    · intro w' hSw; go_simp; with_reducible rfl
    try simp only [Act.put, List.getElem_toArray, List.getElem_cons_zero, List.getElem_cons_succ, List.setIfInBounds_toArray, List.set_cons_zero, List.set_cons_succ]
    refine wpAnyY_takeC (v := undef) [27, 26] ru12_25 ru12o_25 (fun _ _ _ h => h) (Or.inr ⟨by kernel_rfl, rfl⟩) hS ?_
    try simp only [Act.put, List.getElem_toArray, List.getElem_cons_zero, List.getElem_cons_succ, List.setIfInBounds_toArray, List.set_cons_zero, List.set_cons_succ]
    refine wpAnyY_takeC (v := undef) [27] ru12_26 ru12o_26 (fun _ _ _ h => h) (Or.inr ⟨by kernel_rfl, rfl⟩) hS ?_
    try simp only [Act.put, List.getElem_toArray, List.getElem_cons_zero, List.getElem_cons_succ, List.setIfInBounds_toArray, List.set_cons_zero, List.set_cons_succ]
    refine wpAnyY_takeC (v := undef) [] ru12_27 ru12o_27 (fun _ _ _ h => h) (Or.inr ⟨by kernel_rfl, rfl⟩) hS ?_
    try simp only [Act.put, List.getElem_toArray, List.getElem_cons_zero, List.getElem_cons_succ, List.setIfInBounds_toArray, List.set_cons_zero, List.set_cons_succ]
    refine wpAnyY_oneW (i := 28) (by kernel_rfl) ru12o_28 (by kernel_rfl) (by kernel_rfl) (fun K28 hK28 => ?_)
    go_simp
    refine hK28.out _ _ ?_
    try simp only [Act.put, List.getElem_toArray, List.getElem_cons_zero, List.getElem_cons_succ, List.setIfInBounds_toArray, List.set_cons_zero, List.set_cons_succ]
    refine wpAnyY_done (by kernel_rfl) ?_ _
    clear hS hSk
    replace g0 := g0.t ga
    go_wp2_with (go_at_call 13; refine (HWK.out _).mono ?_; rintro e w9 ⟨rfl, hG9⟩)
    go_ret
    exact ⟨rfl, g0.t hG9⟩
  rw [hbi] at HLI
  have hbi2 : (ll : Int) ≤ tv ∧ tv ≤ uu := by
    unfold isInB at hbi
    simpa using hbi
  clear hbi
  by_cases hc : af < 0
  · have u5 : decide (af < 0) = true := decide_eq_true hc
    refine wp_region_Y (S := fun W' => Blk W' (w.heap.size + 1) 51 #[.int .i64 (i : Nat), .int .i64 (m : Nat), .int .i64 (k : Nat), .int .i64 af, .int .i64 wi, .int .i64 si, .int .i64 he] ∧ W'.cell? ⟨gS, k * 2, none⟩ = some (.int .i64 (ll : Nat)) ∧ W'.cell? ⟨gS, k * 2 + 1, none⟩ = some (.int .i64 (uu : Nat))) 28 29 rfl (by kernel_rfl) (hSk.out _ (G.rf _).d) (fun hS => ?_)
    have ga := (G.rf wc).d
    change wpAnyY _ _ opsu12 _ _ _ 29 #[false, false, false, false, false, false, false, false, false, false, false, false, false, false, false, false, false, false, false, false, false, false, false, false, false, false, false, false, false] _ _
    refine wpAnyY_takeC (v := ?_) [24, 23, 10, 3, 2, 1] ru12_0 ru12o_0 (fun _ _ _ h => h) (Or.inl ⟨by kernel_rfl, ?_⟩) hS ?_
    rotate_left
    · intro w' hSw; go_simp; with_reducible rfl
    try simp only [Act.put, List.getElem_toArray, List.getElem_cons_zero, List.getElem_cons_succ, List.setIfInBounds_toArray, List.set_cons_zero, List.set_cons_succ]
    refine wpAnyY_takeC (v := ?_) [24, 23, 10, 3, 2] ru12_1 ru12o_1 (fun _ _ _ h => h) (Or.inl ⟨by kernel_rfl, ?_⟩) hS ?_
    rotate_left
    · intro w' hSw; have x2 := hSw.1.cell 2; have lx := hSw.1.lt; go_simp; with_reducible rfl
    try simp only [Act.put, List.getElem_toArray, List.getElem_cons_zero, List.getElem_cons_succ, List.setIfInBounds_toArray, List.set_cons_zero, List.set_cons_succ]
    refine wpAnyY_takeC (v := ?_) [24, 23, 10, 3] ru12_2 ru12o_2 (fun _ _ _ h => h) (Or.inl ⟨by kernel_rfl, ?_⟩) hS ?_
    rotate_left
    · intro w' hSw; go_simp; with_reducible rfl
    try simp only [Act.put, List.getElem_toArray, List.getElem_cons_zero, List.getElem_cons_succ, List.setIfInBounds_toArray, List.set_cons_zero, List.set_cons_succ]
    refine wpAnyY_takeC (v := ?_) [24, 23, 10] ru12_3 ru12o_3 (fun _ _ _ h => h) (Or.inl ⟨by kernel_rfl, ?_⟩) hS ?_
    rotate_left
    · intro w' hSw; go_simp; with_reducible rfl
    try simp only [Act.put, List.getElem_toArray, List.getElem_cons_zero, List.getElem_cons_succ, List.setIfInBounds_toArray, List.set_cons_zero, List.set_cons_succ]
    refine wpAnyY_takeC (v := ?_) [24, 23, 10, 9, 8, 5] ru12_4 ru12o_4 (fun _ _ _ h => h) (Or.inl ⟨by kernel_rfl, ?_⟩) hS ?_
    rotate_left
    · intro w' hSw; go_simp; with_reducible rfl
    try simp only [Act.put, List.getElem_toArray, List.getElem_cons_zero, List.getElem_cons_succ, List.setIfInBounds_toArray, List.set_cons_zero, List.set_cons_succ]
    refine wpAnyY_takeC (v := ?_) [24, 23, 10, 9, 8] ru12_5 ru12o_5 (fun _ _ _ h => h) (Or.inl ⟨by kernel_rfl, ?_⟩) hS ?_
    rotate_left
    · intro w' hSw; have x2 := hSw.1.cell 2; have lx := hSw.1.lt; go_simp; with_reducible rfl
    try simp only [Act.put, List.getElem_toArray, List.getElem_cons_zero, List.getElem_cons_succ, List.setIfInBounds_toArray, List.set_cons_zero, List.set_cons_succ]
    refine wpAnyY_takeC (v := ?_) [24, 23, 10, 9, 8, 7] ru12_6 ru12o_6 (fun _ _ _ h => h) (Or.inl ⟨by kernel_rfl, ?_⟩) hS ?_
    rotate_left
    · intro w' hSw; go_simp; with_reducible rfl
    try simp only [Act.put, List.getElem_toArray, List.getElem_cons_zero, List.getElem_cons_succ, List.setIfInBounds_toArray, List.set_cons_zero, List.set_cons_succ]
    refine wpAnyY_takeC (v := ?_) [24, 23, 10, 9, 8] ru12_7 ru12o_7 (fun _ _ _ h => h) (Or.inl ⟨by kernel_rfl, ?_⟩) hS ?_
    rotate_left
    · intro w' hSw; go_simp; with_reducible rfl
    try simp only [Act.put, List.getElem_toArray, List.getElem_cons_zero, List.getElem_cons_succ, List.setIfInBounds_toArray, List.set_cons_zero, List.set_cons_succ]
    refine wpAnyY_takeC (v := ?_) [24, 23, 10, 9] ru12_8 ru12o_8 (fun _ _ _ h => h) (Or.inl ⟨by kernel_rfl, ?_⟩) hS ?_
    rotate_left
    · intro w' hSw; go_simp; with_reducible rfl
    try simp only [Act.put, List.getElem_toArray, List.getElem_cons_zero, List.getElem_cons_succ, List.setIfInBounds_toArray, List.set_cons_zero, List.set_cons_succ]
    refine wpAnyY_takeC (v := ?_) [24, 23, 10] ru12_9 ru12o_9 (fun _ _ _ h => h) (Or.inl ⟨by kernel_rfl, ?_⟩) hS ?_
    rotate_left
    · intro w' hSw; go_simp; with_reducible rfl
    try simp only [Act.put, List.getElem_toArray, List.getElem_cons_zero, List.getElem_cons_succ, List.setIfInBounds_toArray, List.set_cons_zero, List.set_cons_succ]
    refine wpAnyY_takeC (v := ?_) [24, 23] ru12_10 ru12o_10 (fun _ _ _ h => h) (Or.inl ⟨by kernel_rfl, ?_⟩) hS ?_
    rotate_left
    · intro w' hSw; go_simp; with_reducible rfl
    try simp only [Act.put, List.getElem_toArray, List.getElem_cons_zero, List.getElem_cons_succ, List.setIfInBounds_toArray, List.set_cons_zero, List.set_cons_succ]
    refine wpAnyY_takeC (v := ?_) [24, 21, 15, 12] ru12_11 ru12o_11 (fun _ _ _ h => h) (Or.inl ⟨by kernel_rfl, ?_⟩) hS ?_
    rotate_left
    · intro w' hSw; go_simp; with_reducible rfl
    try simp only [Act.put, List.getElem_toArray, List.getElem_cons_zero, List.getElem_cons_succ, List.setIfInBounds_toArray, List.set_cons_zero, List.set_cons_succ]
    refine wpAnyY_takeC (v := ?_) [24, 21, 15] ru12_12 ru12o_12 (fun _ _ _ h => h) (Or.inl ⟨by kernel_rfl, ?_⟩) hS ?_
    rotate_left
    · intro w' hSw; have x1 := hSw.1.cell 1; have lx := hSw.1.lt; go_simp; with_reducible rfl
    try simp only [Act.put, List.getElem_toArray, List.getElem_cons_zero, List.getElem_cons_succ, List.setIfInBounds_toArray, List.set_cons_zero, List.set_cons_succ]
    refine wpAnyY_takeC (v := ?_) [24, 21, 15, 14] ru12_13 ru12o_13 (fun _ _ _ h => h) (Or.inl ⟨by kernel_rfl, ?_⟩) hS ?_
    rotate_left
    · intro w' hSw; go_simp; with_reducible rfl
    try simp only [Act.put, List.getElem_toArray, List.getElem_cons_zero, List.getElem_cons_succ, List.setIfInBounds_toArray, List.set_cons_zero, List.set_cons_succ]
    refine wpAnyY_takeC (v := ?_) [24, 21, 15] ru12_14 ru12o_14 (fun _ _ _ h => h) (Or.inl ⟨by kernel_rfl, ?_⟩) hS ?_
    rotate_left
    · intro w' hSw; have x3 := hSw.1.cell 3; have lx := hSw.1.lt; go_simp; with_reducible rfl
    try simp only [Act.put, List.getElem_toArray, List.getElem_cons_zero, List.getElem_cons_succ, List.setIfInBounds_toArray, List.set_cons_zero, List.set_cons_succ]
    refine wpAnyY_takeC (v := ?_) [24, 21] ru12_15 ru12o_15 (fun _ _ _ h => h) (Or.inl ⟨by kernel_rfl, ?_⟩) hS ?_
    rotate_left
    · intro w' hSw; go_simp; with_reducible rfl
    try simp only [Act.put, List.getElem_toArray, List.getElem_cons_zero, List.getElem_cons_succ, List.setIfInBounds_toArray, List.set_cons_zero, List.set_cons_succ]
    refine wpAnyY_takeC (v := ?_) [24, 21, 20, 19] ru12_16 ru12o_16 (fun _ _ _ h => h) (Or.inl ⟨by kernel_rfl, ?_⟩) hS ?_
    rotate_left
    · intro w' hSw; go_simp; with_reducible rfl
    try simp only [Act.put, List.getElem_toArray, List.getElem_cons_zero, List.getElem_cons_succ, List.setIfInBounds_toArray, List.set_cons_zero, List.set_cons_succ]
    refine wpAnyY_takeC (v := ?_) [24, 21, 20, 19, 18] ru12_17 ru12o_17 (fun _ _ _ h => h) (Or.inl ⟨by kernel_rfl, ?_⟩) hS ?_
    rotate_left
    · intro w' hSw; go_simp; with_reducible rfl
    try simp only [Act.put, List.getElem_toArray, List.getElem_cons_zero, List.getElem_cons_succ, List.setIfInBounds_toArray, List.set_cons_zero, List.set_cons_succ]
    refine wpAnyY_takeC (v := ?_) [24, 21, 20, 19] ru12_18 ru12o_18 (fun _ _ _ h => h) (Or.inl ⟨by kernel_rfl, ?_⟩) hS ?_
    rotate_left
    · intro w' hSw; have x2 := hSw.1.cell 2; have lx := hSw.1.lt; go_simp; with_reducible rfl
    try simp only [Act.put, List.getElem_toArray, List.getElem_cons_zero, List.getElem_cons_succ, List.setIfInBounds_toArray, List.set_cons_zero, List.set_cons_succ]
    refine wpAnyY_takeC (v := ?_) [24, 21, 20] ru12_19 ru12o_19 (fun _ _ _ h => h) (Or.inl ⟨by kernel_rfl, ?_⟩) hS ?_
    rotate_left
    · intro w' hSw; go_simp; with_reducible rfl
    try simp only [Act.put, List.getElem_toArray, List.getElem_cons_zero, List.getElem_cons_succ, List.setIfInBounds_toArray, List.set_cons_zero, List.set_cons_succ]
    refine wpAnyY_takeC (v := ?_) [24, 21] ru12_20 ru12o_20 (fun _ _ _ h => h) (Or.inl ⟨by kernel_rfl, ?_⟩) hS ?_
    rotate_left
    · intro w' hSw; have s1 := hSw.2.1; have s2 := hSw.2.2; go_simp; with_reducible rfl
    try simp only [Act.put, List.getElem_toArray, List.getElem_cons_zero, List.getElem_cons_succ, List.setIfInBounds_toArray, List.set_cons_zero, List.set_cons_succ]
    refine wpAnyY_oneSWC ru12_21 ru12o_21 (by kernel_rfl) (fun K21 hK21 => ?_)
    go_simp
    refine (HLI.out _).mono ?_
    rintro e wd ⟨rfl, hG21⟩
    replace ga := ga.t hG21
    refine hK21.out _ _ (hSk.out _ ga) (fun hS => ?_)
    try simp only [Act.put, List.getElem_toArray, List.getElem_cons_zero, List.getElem_cons_succ, List.setIfInBounds_toArray, List.set_cons_zero, List.set_cons_succ]
    refine wpAnyY_takeC (v := ?_) [24, 23] ru12_22 ru12o_22 (fun _ _ _ h => h) (Or.inl ⟨by kernel_rfl, ?_⟩) hS ?_
    rotate_left
    · intro w' hSw; go_simp; with_reducible rfl
    try simp only [Act.put, List.getElem_toArray, List.getElem_cons_zero, List.getElem_cons_succ, List.setIfInBounds_toArray, List.set_cons_zero, List.set_cons_succ]
    refine wpAnyY_takeC (v := ?_) [24] ru12_23 ru12o_23 (fun _ _ _ h => h) (Or.inl ⟨by kernel_rfl, ?_⟩) hS ?_
    rotate_left
    · intro w' hSw; go_simp; with_reducible rfl
    try simp only [Act.put, List.getElem_toArray, List.getElem_cons_zero, List.getElem_cons_succ, List.setIfInBounds_toArray, List.set_cons_zero, List.set_cons_succ]
    refine wpAnyY_takeC (v := ?_) [] ru12_24 ru12o_24 (fun _ _ _ h => h) (Or.inl ⟨by kernel_rfl, ?_⟩) hS ?_
    rotate_left
    · intro w' hSw; go_simp; with_reducible rfl
    try simp only [Act.put, List.getElem_toArray, List.getElem_cons_zero, List.getElem_cons_succ, List.setIfInBounds_toArray, List.set_cons_zero, List.set_cons_succ]
    refine wpAnyY_takeC (v := ?_) [27, 26] ru12_25 ru12o_25 (fun _ _ _ h => h) (Or.inl ⟨by kernel_rfl, ?_⟩) hS ?_
    rotate_left
    · intro w' hSw; go_simp; with_reducible rfl
    try simp only [Act.put, List.getElem_toArray, List.getElem_cons_zero, List.getElem_cons_succ, List.setIfInBounds_toArray, List.set_cons_zero, List.set_cons_succ]
    refine wpAnyY_takeC (v := ?_) [27] ru12_26 ru12o_26 (fun _ _ _ h => h) (Or.inl ⟨by kernel_rfl, ?_⟩) hS ?_
    rotate_left
    · intro w' hSw; have x3 := hSw.1.cell 3; have lx := hSw.1.lt; go_simp; with_reducible rfl
    try simp only [Act.put, List.getElem_toArray, List.getElem_cons_zero, List.getElem_cons_succ, List.setIfInBounds_toArray, List.set_cons_zero, List.set_cons_succ]
    refine wpAnyY_takeC (v := ?_) [] ru12_27 ru12o_27 (fun _ _ _ h => h) (Or.inl ⟨by kernel_rfl, ?_⟩) hS ?_
    rotate_left
    · intro w' hSw; go_simp; with_reducible rfl
    try simp only [Act.put, List.getElem_toArray, List.getElem_cons_zero, List.getElem_cons_succ, List.setIfInBounds_toArray, List.set_cons_zero, List.set_cons_succ]
    refine wpAnyY_oneW (i := 28) (by kernel_rfl) ru12o_28 (by kernel_rfl) (by kernel_rfl) (fun K28 hK28 => ?_)
    go_simp
    refine hK28.out _ _ ?_
    try simp only [Act.put, List.getElem_toArray, List.getElem_cons_zero, List.getElem_cons_succ, List.setIfInBounds_toArray, List.set_cons_zero, List.set_cons_succ]
    refine wpAnyY_done (by kernel_rfl) ?_ _
    clear hS hSk
    replace g0 := g0.t ga
    go_wp2_with (go_at_call 13; refine (HWK.out _).mono ?_; rintro e w9 ⟨rfl, hG9⟩)
    go_ret
    exact ⟨rfl, g0.t hG9⟩
  have u5 : decide (af < 0) = false := decide_eq_false hc
  refine wp_region_Y (S := fun W' => Blk W' (w.heap.size + 1) 51 #[.int .i64 (i : Nat), .int .i64 (m : Nat), .int .i64 (k : Nat), .int .i64 af, .int .i64 wi, .int .i64 si, .int .i64 he] ∧ W'.cell? ⟨gS, k * 2, none⟩ = some (.int .i64 (ll : Nat)) ∧ W'.cell? ⟨gS, k * 2 + 1, none⟩ = some (.int .i64 (uu : Nat))) 28 29 rfl (by kernel_rfl) (hSk.out _ (G.rf _).d) (fun hS => ?_)
  have ga := (G.rf wc).d
  change wpAnyY _ _ opsu12 _ _ _ 29 #[false, false, false, false, false, false, false, false, false, false, false, false, false, false, false, false, false, false, false, false, false, false, false, false, false, false, false, false, false] _ _
  refine wpAnyY_takeC (v := ?_) [24, 23, 10, 3, 2, 1] ru12_0 ru12o_0 (fun _ _ _ h => h) (Or.inl ⟨by kernel_rfl, ?_⟩) hS ?_
  rotate_left
  · intro w' hSw; go_simp; with_reducible rfl
  try simp only [Act.put, List.getElem_toArray, List.getElem_cons_zero, List.getElem_cons_succ, List.setIfInBounds_toArray, List.set_cons_zero, List.set_cons_succ]
  refine wpAnyY_takeC (v := ?_) [24, 23, 10, 3, 2] ru12_1 ru12o_1 (fun _ _ _ h => h) (Or.inl ⟨by kernel_rfl, ?_⟩) hS ?_
  rotate_left
  · intro w' hSw; have x2 := hSw.1.cell 2; have lx := hSw.1.lt; go_simp; with_reducible rfl
  try simp only [Act.put, List.getElem_toArray, List.getElem_cons_zero, List.getElem_cons_succ, List.setIfInBounds_toArray, List.set_cons_zero, List.set_cons_succ]
  refine wpAnyY_takeC (v := ?_) [24, 23, 10, 3] ru12_2 ru12o_2 (fun _ _ _ h => h) (Or.inl ⟨by kernel_rfl, ?_⟩) hS ?_
  rotate_left
  · intro w' hSw; go_simp; with_reducible rfl
  try simp only [Act.put, List.getElem_toArray, List.getElem_cons_zero, List.getElem_cons_succ, List.setIfInBounds_toArray, List.set_cons_zero, List.set_cons_succ]
  refine wpAnyY_takeC (v := ?_) [24, 23, 10] ru12_3 ru12o_3 (fun _ _ _ h => h) (Or.inl ⟨by kernel_rfl, ?_⟩) hS ?_
  rotate_left
  · intro w' hSw; go_simp; with_reducible rfl
  try simp only [Act.put, List.getElem_toArray, List.getElem_cons_zero, List.getElem_cons_succ, List.setIfInBounds_toArray, List.set_cons_zero, List.set_cons_succ]
  refine wpAnyY_takeC (v := ?_) [24, 23, 10, 9, 8, 5] ru12_4 ru12o_4 (fun _ _ _ h => h) (Or.inl ⟨by kernel_rfl, ?_⟩) hS ?_
  rotate_left
  · intro w' hSw; go_simp; with_reducible rfl
  try simp only [Act.put, List.getElem_toArray, List.getElem_cons_zero, List.getElem_cons_succ, List.setIfInBounds_toArray, List.set_cons_zero, List.set_cons_succ]
  refine wpAnyY_takeC (v := ?_) [24, 23, 10, 9, 8] ru12_5 ru12o_5 (fun _ _ _ h => h) (Or.inl ⟨by kernel_rfl, ?_⟩) hS ?_
  rotate_left
  · intro w' hSw; have x2 := hSw.1.cell 2; have lx := hSw.1.lt; go_simp; with_reducible rfl
  try simp only [Act.put, List.getElem_toArray, List.getElem_cons_zero, List.getElem_cons_succ, List.setIfInBounds_toArray, List.set_cons_zero, List.set_cons_succ]
  refine wpAnyY_takeC (v := ?_) [24, 23, 10, 9, 8, 7] ru12_6 ru12o_6 (fun _ _ _ h => h) (Or.inl ⟨by kernel_rfl, ?_⟩) hS ?_
  rotate_left
  · intro w' hSw; go_simp; with_reducible rfl
  try simp only [Act.put, List.getElem_toArray, List.getElem_cons_zero, List.getElem_cons_succ, List.setIfInBounds_toArray, List.set_cons_zero, List.set_cons_succ]
  refine wpAnyY_takeC (v := ?_) [24, 23, 10, 9, 8] ru12_7 ru12o_7 (fun _ _ _ h => h) (Or.inl ⟨by kernel_rfl, ?_⟩) hS ?_
  rotate_left
  · intro w' hSw; go_simp; with_reducible rfl
  try simp only [Act.put, List.getElem_toArray, List.getElem_cons_zero, List.getElem_cons_succ, List.setIfInBounds_toArray, List.set_cons_zero, List.set_cons_succ]
  refine wpAnyY_takeC (v := ?_) [24, 23, 10, 9] ru12_8 ru12o_8 (fun _ _ _ h => h) (Or.inl ⟨by kernel_rfl, ?_⟩) hS ?_
  rotate_left
  · intro w' hSw; go_simp; with_reducible rfl
  try simp only [Act.put, List.getElem_toArray, List.getElem_cons_zero, List.getElem_cons_succ, List.setIfInBounds_toArray, List.set_cons_zero, List.set_cons_succ]
  refine wpAnyY_takeC (v := ?_) [24, 23, 10] ru12_9 ru12o_9 (fun _ _ _ h => h) (Or.inl ⟨by kernel_rfl, ?_⟩) hS ?_
  rotate_left
  · intro w' hSw; go_simp; with_reducible rfl
  try simp only [Act.put, List.getElem_toArray, List.getElem_cons_zero, List.getElem_cons_succ, List.setIfInBounds_toArray, List.set_cons_zero, List.set_cons_succ]
  refine wpAnyY_takeC (v := ?_) [24, 23] ru12_10 ru12o_10 (fun _ _ _ h => h) (Or.inl ⟨by kernel_rfl, ?_⟩) hS ?_
  rotate_left
  · intro w' hSw; go_simp; with_reducible rfl
  try simp only [Act.put, List.getElem_toArray, List.getElem_cons_zero, List.getElem_cons_succ, List.setIfInBounds_toArray, List.set_cons_zero, List.set_cons_succ]
  refine wpAnyY_takeC (v := ?_) [24, 21, 15, 12] ru12_11 ru12o_11 (fun _ _ _ h => h) (Or.inl ⟨by kernel_rfl, ?_⟩) hS ?_
  rotate_left
  · intro w' hSw; go_simp; with_reducible rfl
  try simp only [Act.put, List.getElem_toArray, List.getElem_cons_zero, List.getElem_cons_succ, List.setIfInBounds_toArray, List.set_cons_zero, List.set_cons_succ]
  refine wpAnyY_takeC (v := ?_) [24, 21, 15] ru12_12 ru12o_12 (fun _ _ _ h => h) (Or.inl ⟨by kernel_rfl, ?_⟩) hS ?_
  rotate_left
  · intro w' hSw; have x1 := hSw.1.cell 1; have lx := hSw.1.lt; go_simp; with_reducible rfl
  try simp only [Act.put, List.getElem_toArray, List.getElem_cons_zero, List.getElem_cons_succ, List.setIfInBounds_toArray, List.set_cons_zero, List.set_cons_succ]
  refine wpAnyY_takeC (v := ?_) [24, 21, 15, 14] ru12_13 ru12o_13 (fun _ _ _ h => h) (Or.inl ⟨by kernel_rfl, ?_⟩) hS ?_
  rotate_left
  · intro w' hSw; go_simp; with_reducible rfl
  try simp only [Act.put, List.getElem_toArray, List.getElem_cons_zero, List.getElem_cons_succ, List.setIfInBounds_toArray, List.set_cons_zero, List.set_cons_succ]
  refine wpAnyY_takeC (v := ?_) [24, 21, 15] ru12_14 ru12o_14 (fun _ _ _ h => h) (Or.inl ⟨by kernel_rfl, ?_⟩) hS ?_
  rotate_left
  · intro w' hSw; have x3 := hSw.1.cell 3; have lx := hSw.1.lt; go_simp; with_reducible rfl
  try simp only [Act.put, List.getElem_toArray, List.getElem_cons_zero, List.getElem_cons_succ, List.setIfInBounds_toArray, List.set_cons_zero, List.set_cons_succ]
  refine wpAnyY_takeC (v := ?_) [24, 21] ru12_15 ru12o_15 (fun _ _ _ h => h) (Or.inl ⟨by kernel_rfl, ?_⟩) hS ?_
  rotate_left
  · intro w' hSw; go_simp; with_reducible rfl
  try simp only [Act.put, List.getElem_toArray, List.getElem_cons_zero, List.getElem_cons_succ, List.setIfInBounds_toArray, List.set_cons_zero, List.set_cons_succ]
  refine wpAnyY_takeC (v := ?_) [24, 21, 20, 19] ru12_16 ru12o_16 (fun _ _ _ h => h) (Or.inl ⟨by kernel_rfl, ?_⟩) hS ?_
  rotate_left
  · intro w' hSw; go_simp; with_reducible rfl
  try simp only [Act.put, List.getElem_toArray, List.getElem_cons_zero, List.getElem_cons_succ, List.setIfInBounds_toArray, List.set_cons_zero, List.set_cons_succ]
  refine wpAnyY_takeC (v := ?_) [24, 21, 20, 19, 18] ru12_17 ru12o_17 (fun _ _ _ h => h) (Or.inl ⟨by kernel_rfl, ?_⟩) hS ?_
  rotate_left
  · intro w' hSw; go_simp; with_reducible rfl
  try simp only [Act.put, List.getElem_toArray, List.getElem_cons_zero, List.getElem_cons_succ, List.setIfInBounds_toArray, List.set_cons_zero, List.set_cons_succ]
  refine wpAnyY_takeC (v := ?_) [24, 21, 20, 19] ru12_18 ru12o_18 (fun _ _ _ h => h) (Or.inl ⟨by kernel_rfl, ?_⟩) hS ?_
  rotate_left
  · intro w' hSw; have x2 := hSw.1.cell 2; have lx := hSw.1.lt; go_simp; with_reducible rfl
  try simp only [Act.put, List.getElem_toArray, List.getElem_cons_zero, List.getElem_cons_succ, List.setIfInBounds_toArray, List.set_cons_zero, List.set_cons_succ]
  refine wpAnyY_takeC (v := ?_) [24, 21, 20] ru12_19 ru12o_19 (fun _ _ _ h => h) (Or.inl ⟨by kernel_rfl, ?_⟩) hS ?_
  rotate_left
  · intro w' hSw; go_simp; with_reducible rfl
  try simp only [Act.put, List.getElem_toArray, List.getElem_cons_zero, List.getElem_cons_succ, List.setIfInBounds_toArray, List.set_cons_zero, List.set_cons_succ]
  refine wpAnyY_takeC (v := ?_) [24, 21] ru12_20 ru12o_20 (fun _ _ _ h => h) (Or.inl ⟨by kernel_rfl, ?_⟩) hS ?_
  rotate_left
  · intro w' hSw; have s1 := hSw.2.1; have s2 := hSw.2.2; go_simp; with_reducible rfl
  try simp only [Act.put, List.getElem_toArray, List.getElem_cons_zero, List.getElem_cons_succ, List.setIfInBounds_toArray, List.set_cons_zero, List.set_cons_succ]
  refine wpAnyY_oneSWC ru12_21 ru12o_21 (by kernel_rfl) (fun K21 hK21 => ?_)
  go_simp
  refine (HLI.out _).mono ?_
  rintro e wd ⟨rfl, hG21⟩
  replace ga := ga.t hG21
  refine hK21.out _ _ (hSk.out _ ga) (fun hS => ?_)
  try simp only [Act.put, List.getElem_toArray, List.getElem_cons_zero, List.getElem_cons_succ, List.setIfInBounds_toArray, List.set_cons_zero, List.set_cons_succ]
  refine wpAnyY_takeC (v := ?_) [24, 23] ru12_22 ru12o_22 (fun _ _ _ h => h) (Or.inl ⟨by kernel_rfl, ?_⟩) hS ?_
  rotate_left
  · intro w' hSw; go_simp; with_reducible rfl
  try simp only [Act.put, List.getElem_toArray, List.getElem_cons_zero, List.getElem_cons_succ, List.setIfInBounds_toArray, List.set_cons_zero, List.set_cons_succ]
  refine wpAnyY_takeC (v := ?_) [24] ru12_23 ru12o_23 (fun _ _ _ h => h) (Or.inl ⟨by kernel_rfl, ?_⟩) hS ?_
  rotate_left
  · intro w' hSw; go_simp; with_reducible rfl
  try simp only [Act.put, List.getElem_toArray, List.getElem_cons_zero, List.getElem_cons_succ, List.setIfInBounds_toArray, List.set_cons_zero, List.set_cons_succ]
  refine wpAnyY_takeC (v := ?_) [] ru12_24 ru12o_24 (fun _ _ _ h => h) (Or.inl ⟨by kernel_rfl, ?_⟩) hS ?_
  rotate_left
  · intro w' hSw; go_simp; with_reducible rfl
  try simp only [Act.put, List.getElem_toArray, List.getElem_cons_zero, List.getElem_cons_succ, List.setIfInBounds_toArray, List.set_cons_zero, List.set_cons_succ]
  refine wpAnyY_takeC (v := ?_) [27, 26] ru12_25 ru12o_25 (fun _ _ _ h => h) (Or.inl ⟨by kernel_rfl, ?_⟩) hS ?_
  rotate_left
  · intro w' hSw; go_simp; with_reducible rfl
  try simp only [Act.put, List.getElem_toArray, List.getElem_cons_zero, List.getElem_cons_succ, List.setIfInBounds_toArray, List.set_cons_zero, List.set_cons_succ]
  refine wpAnyY_takeC (v := ?_) [27] ru12_26 ru12o_26 (fun _ _ _ h => h) (Or.inl ⟨by kernel_rfl, ?_⟩) hS ?_
  rotate_left
  · intro w' hSw; have x3 := hSw.1.cell 3; have lx := hSw.1.lt; go_simp; with_reducible rfl
  try simp only [Act.put, List.getElem_toArray, List.getElem_cons_zero, List.getElem_cons_succ, List.setIfInBounds_toArray, List.set_cons_zero, List.set_cons_succ]
  refine wpAnyY_takeC (v := ?_) [] ru12_27 ru12o_27 (fun _ _ _ h => h) (Or.inl ⟨by kernel_rfl, ?_⟩) hS ?_
  rotate_left
  · intro w' hSw; go_simp; with_reducible rfl
  try simp only [Act.put, List.getElem_toArray, List.getElem_cons_zero, List.getElem_cons_succ, List.setIfInBounds_toArray, List.set_cons_zero, List.set_cons_succ]
  refine wpAnyY_oneW (i := 28) (by kernel_rfl) ru12o_28 (by kernel_rfl) (by kernel_rfl) (fun K28 hK28 => ?_)
  go_simp
  refine hK28.out _ _ ?_
  try simp only [Act.put, List.getElem_toArray, List.getElem_cons_zero, List.getElem_cons_succ, List.setIfInBounds_toArray, List.set_cons_zero, List.set_cons_succ]
  refine wpAnyY_done (by kernel_rfl) ?_ _
  clear hS hSk HLI u1 u2 u3 u4 u5
  replace g0 := g0.t ga
  replace b0 := b0.keep ga
  replace c0 := c0.keep ga
  have HPT3 := Lib.hid (HPT2.out.keep hgP ga)
  replace hgP := Nat.lt_of_lt_of_le hgP ga.size
  clear ga HPT2
  obtain ⟨wc, rfl⟩ : ∃ wc, wc = wd := ⟨_, rfl⟩
  obtain ⟨T, rfl⟩ : ∃ T : Nat, tv = T := ⟨tv.toNat, by omega⟩
  obtain ⟨hr, hhr⟩ : ∃ x, x = T / 60 := ⟨_, rfl⟩
  have hTb : T ≤ 1000000000000 := by omega
  have xq : ((T : Nat) : Int).tdiv 60 = (hr : Nat) := by rw [hhr]; exact (Int.ofNat_tdiv T 60).symm
  have xw : IntKind.i64.wrap ((hr : Nat) : Int) = (hr : Nat) := IntWalk.i64_in _ (by omega)
  have hlim := fun h1 => HIN.out h1 T (by omega) (by omega)
  rw [← hhr] at hlim
  have HLIM := Lib.hid hlim
  clear hlim HIN hhr
  have x1 : wc.cell? ⟨w.heap.size + 1, 1, none⟩ = some (.int .i64 (m : Nat)) := c0.cell 1
  have x3 : wc.cell? ⟨w.heap.size + 1, 3, none⟩ = some (.int .i64 af) := c0.cell 3
  have y15 := (b0.cell 15).trans h15
  have lx := c0.lt
  have lb := b0.lt
  go_upto_region 15 with fail
  clear x1 x3 lx xq xw
  by_cases hge : hours ≤ hr
  · have v1 : decide ((hours : Int) ≤ (hr : Int)) = true := decide_eq_true (by omega)
    have v2 : decide (hours ≤ hr) = true := decide_eq_true hge
    by_cases h1 : s1 = 1
    · subst h1
      obtain ⟨e1, e2, e3⟩ := (HLIM.out rfl).2 hge
      subst e1 e2 e3
      have y12 := (b0.cell 12).trans h12
      have y13 := (b0.cell 13).trans h13
      have y14 := (b0.cell 14).trans h14
      go_wp2_with fail
      go_ret
      exact ⟨rfl, g0⟩
    · have n1 : (s1 != 1) = true := by simpa using h1
      go_wp2_with fail
      go_ret
      exact ⟨rfl, g0⟩
  have v1 : decide ((hours : Int) ≤ (hr : Int)) = false := decide_eq_false (by omega)
  have v2 : decide (hours ≤ hr) = false := decide_eq_false hge
  have v3 : ¬ hours ≤ hr := hge
  go_upto_region 17 with fail
  clear v1 v2 v3 y15 lb
  have hl := fun h1 => (HLIM.out h1).1 (by omega)
  have hwk := fun W (hW : G w W) => HWE0.out k hr W hkN (by omega) hW
  obtain ⟨pp1, pp2⟩ := HPT3.out k (by rw [← HNP.out]; exact hkN)
  obtain ⟨px, hpx⟩ : ∃ x, x = (P.getD k (0, 0)).1 := ⟨_, rfl⟩
  obtain ⟨py, hpy⟩ : ∃ x, x = (P.getD k (0, 0)).2 := ⟨_, rfl⟩
  obtain ⟨s, hs⟩ : ∃ s, s = sk k hr := ⟨_, rfl⟩
  rw [← hpx] at pp1 hwk
  rw [← hpy] at pp2 hwk
  rw [← hs] at hwk hl
  obtain ⟨a0, a1, a2, a3, a4, a5⟩ := s
  have HWK2 : Hid (∀ W, G w W → Calls Try.prog 19 #[.agg REL, .agg #[.int .i64 (px : Nat), .int .i64 (py : Nat)], .int .i64 (hr : Nat)] W fun e w' => e = .returned (.tuple #[.agg #[.int .i64 a0, .int .i64 a1, .int .i64 a2, .int .i64 a3, .int .i64 a4, .int .i64 a5], .int .i64 0]) ∧ G W w') := hwk
  have HL : Hid (s1 = 1 → a1 ≤ lw ∧ lg ≤ a2 ∧ a5 ≤ lh) := hl
  have hSk : Hid (∀ W', G wc W' → ((Blk W' w.heap.size 35 REL ∧ Blk W' (w.heap.size + 1) 51 #[.int .i64 (i : Nat), .int .i64 (m : Nat), .int .i64 (k : Nat), .int .i64 af, .int .i64 wi, .int .i64 si, .int .i64 he]) ∧ W'.cell? ⟨gP, k * 2, none⟩ = some (.int .i64 (px : Nat)) ∧ W'.cell? ⟨gP, k * 2 + 1, none⟩ = some (.int .i64 (py : Nat)))) := fun W' h => ⟨⟨b0.keep h, c0.keep h⟩, ((bcellB h).1 gP _ hgP).trans pp1, ((bcellB h).1 gP _ hgP).trans pp2⟩
  clear pp1 pp2 hpx hpy hs hwk hl HLIM HWE0 HPT3
  refine wp_region_Y (S := fun W' => (Blk W' w.heap.size 35 REL ∧ Blk W' (w.heap.size + 1) 51 #[.int .i64 (i : Nat), .int .i64 (m : Nat), .int .i64 (k : Nat), .int .i64 af, .int .i64 wi, .int .i64 si, .int .i64 he]) ∧ W'.cell? ⟨gP, k * 2, none⟩ = some (.int .i64 (px : Nat)) ∧ W'.cell? ⟨gP, k * 2 + 1, none⟩ = some (.int .i64 (py : Nat))) 13 14 rfl (by kernel_rfl) (hSk.out _ (G.rf _).d) (fun hS => ?_)
  have ga := (G.rf wc).d
  refine wpAnyY_take (i := 0) (v := .agg REL) rfl (by kernel_rfl) (by kernel_rfl) (by kernel_rfl) (by kernel_rfl) (fun _ _ _ h => h) (Or.inl ⟨by kernel_rfl, ?_⟩) hS ?_
  · intro w' hSw; exact load46o w' w.heap.size 2 HIS.out _ _ rfl (by kernel_rfl) hSw.1.1
  try simp only [Act.put, List.getElem_toArray, List.getElem_cons_zero, List.getElem_cons_succ, List.setIfInBounds_toArray, List.set_cons_zero, List.set_cons_succ]
  refine wpAnyY_take (i := 1) (v := ?_) rfl (by kernel_rfl) (by kernel_rfl) (by kernel_rfl) (by kernel_rfl) (fun _ _ _ h => h) (Or.inl ⟨by kernel_rfl, ?_⟩) hS ?_
  rotate_left
  · intro w' hSw; go_simp; with_reducible rfl
  try simp only [Act.put, List.getElem_toArray, List.getElem_cons_zero, List.getElem_cons_succ, List.setIfInBounds_toArray, List.set_cons_zero, List.set_cons_succ]
  refine wpAnyY_take (i := 2) (v := ?_) rfl (by kernel_rfl) (by kernel_rfl) (by kernel_rfl) (by kernel_rfl) (fun _ _ _ h => h) (Or.inl ⟨by kernel_rfl, ?_⟩) hS ?_
  rotate_left
  · intro w' hSw; go_simp; with_reducible rfl
  try simp only [Act.put, List.getElem_toArray, List.getElem_cons_zero, List.getElem_cons_succ, List.setIfInBounds_toArray, List.set_cons_zero, List.set_cons_succ]
  refine wpAnyY_take (i := 3) (v := ?_) rfl (by kernel_rfl) (by kernel_rfl) (by kernel_rfl) (by kernel_rfl) (fun _ _ _ h => h) (Or.inl ⟨by kernel_rfl, ?_⟩) hS ?_
  rotate_left
  · intro w' hSw; have x2 := hSw.1.2.cell 2; have lx := hSw.1.2.lt; go_simp; with_reducible rfl
  try simp only [Act.put, List.getElem_toArray, List.getElem_cons_zero, List.getElem_cons_succ, List.setIfInBounds_toArray, List.set_cons_zero, List.set_cons_succ]
  refine wpAnyY_take (i := 4) (v := ?_) rfl (by kernel_rfl) (by kernel_rfl) (by kernel_rfl) (by kernel_rfl) (fun _ _ _ h => h) (Or.inl ⟨by kernel_rfl, ?_⟩) hS ?_
  rotate_left
  · intro w' hSw; go_simp; with_reducible rfl
  try simp only [Act.put, List.getElem_toArray, List.getElem_cons_zero, List.getElem_cons_succ, List.setIfInBounds_toArray, List.set_cons_zero, List.set_cons_succ]
  refine wpAnyY_take (i := 5) (v := ?_) rfl (by kernel_rfl) (by kernel_rfl) (by kernel_rfl) (by kernel_rfl) (fun _ _ _ h => h) (Or.inl ⟨by kernel_rfl, ?_⟩) hS ?_
  rotate_left
  · intro w' hSw; have p1 := hSw.2.1; have p2 := hSw.2.2; go_simp; with_reducible rfl
  try simp only [Act.put, List.getElem_toArray, List.getElem_cons_zero, List.getElem_cons_succ, List.setIfInBounds_toArray, List.set_cons_zero, List.set_cons_succ]
  refine wpAnyY_take (i := 6) (v := ?_) rfl (by kernel_rfl) (by kernel_rfl) (by kernel_rfl) (by kernel_rfl) (fun _ _ _ h => h) (Or.inl ⟨by kernel_rfl, ?_⟩) hS ?_
  rotate_left
  · intro w' hSw; go_simp; with_reducible rfl
  try simp only [Act.put, List.getElem_toArray, List.getElem_cons_zero, List.getElem_cons_succ, List.setIfInBounds_toArray, List.set_cons_zero, List.set_cons_succ]
  refine wpAnyY_twoSW (i := 7) (j := 11) (by kernel_rfl) rfl rfl (by kernel_rfl) (by kernel_rfl) (fun K7 hK7 => ?_) (fun K11 hK11 => ?_)
  · go_simp
    refine (HWK2.out _ (g0.t ga)).mono ?_
    rintro e wd ⟨rfl, hG7⟩
    replace ga := ga.t hG7
    refine hK7.out _ _ (hSk.out _ ga) (fun hS => ?_)
    try simp only [Act.put, List.getElem_toArray, List.getElem_cons_zero, List.getElem_cons_succ, List.setIfInBounds_toArray, List.set_cons_zero, List.set_cons_succ]
    refine wpAnyY_take (i := 8) (v := ?_) rfl (by kernel_rfl) (by kernel_rfl) (by kernel_rfl) (by kernel_rfl) (fun _ _ _ h => h) (Or.inl ⟨by kernel_rfl, ?_⟩) hS ?_
    rotate_left
    · intro w' hSw; go_simp; with_reducible rfl
    try simp only [Act.put, List.getElem_toArray, List.getElem_cons_zero, List.getElem_cons_succ, List.setIfInBounds_toArray, List.set_cons_zero, List.set_cons_succ]
    refine wpAnyY_take (i := 9) (v := ?_) rfl (by kernel_rfl) (by kernel_rfl) (by kernel_rfl) (by kernel_rfl) (fun _ _ _ h => h) (Or.inl ⟨by kernel_rfl, ?_⟩) hS ?_
    rotate_left
    · intro w' hSw; go_simp; with_reducible rfl
    try simp only [Act.put, List.getElem_toArray, List.getElem_cons_zero, List.getElem_cons_succ, List.setIfInBounds_toArray, List.set_cons_zero, List.set_cons_succ]
    refine wpAnyY_take (i := 10) (v := ?_) rfl (by kernel_rfl) (by kernel_rfl) (by kernel_rfl) (by kernel_rfl) (fun _ _ _ h => h) (Or.inl ⟨by kernel_rfl, ?_⟩) hS ?_
    rotate_left
    · intro w' hSw; go_simp; with_reducible rfl
    try simp only [Act.put, List.getElem_toArray, List.getElem_cons_zero, List.getElem_cons_succ, List.setIfInBounds_toArray, List.set_cons_zero, List.set_cons_succ]
    refine wpAnyY_oneSW (i := 11) (by kernel_rfl) rfl (by kernel_rfl) (fun K11 hK11 => ?_)
    go_simp
    refine hK11.out _ _ (hSk.out _ (ga.a _)) (fun hS => ?_)
    try simp only [Act.put, List.getElem_toArray, List.getElem_cons_zero, List.getElem_cons_succ, List.setIfInBounds_toArray, List.set_cons_zero, List.set_cons_succ]
    refine wpAnyY_oneSW (i := 12) (by kernel_rfl) rfl (by kernel_rfl) (fun K12 hK12 => ?_)
    go_simp
    refine hK12.out _ _ (hSk.out _ (ga.a _)) (fun hS => ?_)
    try simp only [Act.put, List.getElem_toArray, List.getElem_cons_zero, List.getElem_cons_succ, List.setIfInBounds_toArray, List.set_cons_zero, List.set_cons_succ]
    refine wpAnyY_oneW (i := 13) (by kernel_rfl) rfl (by kernel_rfl) (by kernel_rfl) (fun K13 hK13 => ?_)
    go_simp
    refine hK13.out _ _ ?_
    try simp only [Act.put, List.getElem_toArray, List.getElem_cons_zero, List.getElem_cons_succ, List.setIfInBounds_toArray, List.set_cons_zero, List.set_cons_succ]
    refine wpAnyY_done (by kernel_rfl) ?_ _
    clear hS hSk hK7 hK11 K7 K11 HWK2
    have bW : Blk (wd.alloc (.cells #[.int .i64 a0, .int .i64 a1, .int .i64 a2, .int .i64 a3, .int .i64 a4, .int .i64 a5] 55)) wd.heap.size 55 #[.int .i64 a0, .int .i64 a1, .int .i64 a2, .int .i64 a3, .int .i64 a4, .int .i64 a5] := Blk.new _ _ _
    have gy := ga.a (.cells #[.int .i64 a0, .int .i64 a1, .int .i64 a2, .int .i64 a3, .int .i64 a4, .int .i64 a5] 55)
    obtain ⟨gW, hgW⟩ : ∃ gW, gW = wd.heap.size := ⟨_, rfl⟩
    obtain ⟨wz, hwz⟩ : ∃ wz, wz = wd.alloc (.cells #[.int .i64 a0, .int .i64 a1, .int .i64 a2, .int .i64 a3, .int .i64 a4, .int .i64 a5] 55) := ⟨_, rfl⟩
    rw [← hgW] at bW ⊢
    rw [← hwz] at bW gy ⊢
    replace b0 := b0.keep gy
    replace c0 := c0.keep gy
    replace g0 := g0.t gy
    clear gy ga hgW hwz hG7
    have x4 : wz.cell? ⟨w.heap.size + 1, 4, none⟩ = some (.int .i64 wi) := c0.cell 4
    have x5 : wz.cell? ⟨w.heap.size + 1, 5, none⟩ = some (.int .i64 si) := c0.cell 5
    have x6 : wz.cell? ⟨w.heap.size + 1, 6, none⟩ = some (.int .i64 he) := c0.cell 6
    have k0 : wz.cell? ⟨gW, 0, none⟩ = some (.int .i64 a0) := bW.cell 0
    have k1 : wz.cell? ⟨gW, 1, none⟩ = some (.int .i64 a1) := bW.cell 1
    have k2 : wz.cell? ⟨gW, 2, none⟩ = some (.int .i64 a2) := bW.cell 2
    have k3 : wz.cell? ⟨gW, 3, none⟩ = some (.int .i64 a3) := bW.cell 3
    have k4 : wz.cell? ⟨gW, 4, none⟩ = some (.int .i64 a4) := bW.cell 4
    have k5 : wz.cell? ⟨gW, 5, none⟩ = some (.int .i64 a5) := bW.cell 5
    have lx := c0.lt
    have lW := bW.lt
    have HL4 := Lib.hid (fun W : World => lawIn_any wi a0 a1 W)
    have HL5 := Lib.hid (fun W : World => lawIn_any si a2 a3 W)
    have HL6 := Lib.hid (fun W : World => lawIn_any he a4 a5 W)
    cases e4 : isInB wi a0 a1
    · rw [e4] at HL4
      clear e4 HL5 HL6
      go_wp2_with (first | (go_at_call 18; refine (HL4.out _).mono ?_; rintro e wnHL4 ⟨rfl, hGn⟩; clear HL4; clear x4 x5 x6 k0 k1 k2 k3 k4 k5 lx lW; replace c0 := c0.keep hGn; replace bW := bW.keep hGn; replace b0 := b0.keep hGn; replace g0 := g0.t hGn; clear hGn; have x4 : wnHL4.cell? ⟨w.heap.size + 1, 4, none⟩ = some (.int .i64 wi) := c0.cell 4; have x5 : wnHL4.cell? ⟨w.heap.size + 1, 5, none⟩ = some (.int .i64 si) := c0.cell 5; have x6 : wnHL4.cell? ⟨w.heap.size + 1, 6, none⟩ = some (.int .i64 he) := c0.cell 6; have k0 : wnHL4.cell? ⟨gW, 0, none⟩ = some (.int .i64 a0) := bW.cell 0; have k1 : wnHL4.cell? ⟨gW, 1, none⟩ = some (.int .i64 a1) := bW.cell 1; have k2 : wnHL4.cell? ⟨gW, 2, none⟩ = some (.int .i64 a2) := bW.cell 2; have k3 : wnHL4.cell? ⟨gW, 3, none⟩ = some (.int .i64 a3) := bW.cell 3; have k4 : wnHL4.cell? ⟨gW, 4, none⟩ = some (.int .i64 a4) := bW.cell 4; have k5 : wnHL4.cell? ⟨gW, 5, none⟩ = some (.int .i64 a5) := bW.cell 5; have lx := c0.lt; have lW := bW.lt) | (go_at_call 13; refine (HWK.out _).mono ?_; rintro e w9 ⟨rfl, hG9⟩))
      go_ret
      exact ⟨rfl, g0.t hG9⟩
    rw [e4] at HL4
    cases e5 : isInB si a2 a3
    · rw [e5] at HL5
      clear e4 e5 HL6
      go_wp2_with (first | (go_at_call 18; refine (HL4.out _).mono ?_; rintro e wnHL4 ⟨rfl, hGn⟩; clear HL4; clear x4 x5 x6 k0 k1 k2 k3 k4 k5 lx lW; replace c0 := c0.keep hGn; replace bW := bW.keep hGn; replace b0 := b0.keep hGn; replace g0 := g0.t hGn; clear hGn; have x4 : wnHL4.cell? ⟨w.heap.size + 1, 4, none⟩ = some (.int .i64 wi) := c0.cell 4; have x5 : wnHL4.cell? ⟨w.heap.size + 1, 5, none⟩ = some (.int .i64 si) := c0.cell 5; have x6 : wnHL4.cell? ⟨w.heap.size + 1, 6, none⟩ = some (.int .i64 he) := c0.cell 6; have k0 : wnHL4.cell? ⟨gW, 0, none⟩ = some (.int .i64 a0) := bW.cell 0; have k1 : wnHL4.cell? ⟨gW, 1, none⟩ = some (.int .i64 a1) := bW.cell 1; have k2 : wnHL4.cell? ⟨gW, 2, none⟩ = some (.int .i64 a2) := bW.cell 2; have k3 : wnHL4.cell? ⟨gW, 3, none⟩ = some (.int .i64 a3) := bW.cell 3; have k4 : wnHL4.cell? ⟨gW, 4, none⟩ = some (.int .i64 a4) := bW.cell 4; have k5 : wnHL4.cell? ⟨gW, 5, none⟩ = some (.int .i64 a5) := bW.cell 5; have lx := c0.lt; have lW := bW.lt) | (go_at_call 18; refine (HL5.out _).mono ?_; rintro e wnHL5 ⟨rfl, hGn⟩; clear HL5; clear x4 x5 x6 k0 k1 k2 k3 k4 k5 lx lW; replace c0 := c0.keep hGn; replace bW := bW.keep hGn; replace b0 := b0.keep hGn; replace g0 := g0.t hGn; clear hGn; have x4 : wnHL5.cell? ⟨w.heap.size + 1, 4, none⟩ = some (.int .i64 wi) := c0.cell 4; have x5 : wnHL5.cell? ⟨w.heap.size + 1, 5, none⟩ = some (.int .i64 si) := c0.cell 5; have x6 : wnHL5.cell? ⟨w.heap.size + 1, 6, none⟩ = some (.int .i64 he) := c0.cell 6; have k0 : wnHL5.cell? ⟨gW, 0, none⟩ = some (.int .i64 a0) := bW.cell 0; have k1 : wnHL5.cell? ⟨gW, 1, none⟩ = some (.int .i64 a1) := bW.cell 1; have k2 : wnHL5.cell? ⟨gW, 2, none⟩ = some (.int .i64 a2) := bW.cell 2; have k3 : wnHL5.cell? ⟨gW, 3, none⟩ = some (.int .i64 a3) := bW.cell 3; have k4 : wnHL5.cell? ⟨gW, 4, none⟩ = some (.int .i64 a4) := bW.cell 4; have k5 : wnHL5.cell? ⟨gW, 5, none⟩ = some (.int .i64 a5) := bW.cell 5; have lx := c0.lt; have lW := bW.lt) | (go_at_call 13; refine (HWK.out _).mono ?_; rintro e w9 ⟨rfl, hG9⟩))
      go_ret
      exact ⟨rfl, g0.t hG9⟩
    rw [e5] at HL5
    cases e6 : isInB he a4 a5
    · rw [e6] at HL6
      clear e4 e5 e6
      go_wp2_with (first | (go_at_call 18; refine (HL4.out _).mono ?_; rintro e wnHL4 ⟨rfl, hGn⟩; clear HL4; clear x4 x5 x6 k0 k1 k2 k3 k4 k5 lx lW; replace c0 := c0.keep hGn; replace bW := bW.keep hGn; replace b0 := b0.keep hGn; replace g0 := g0.t hGn; clear hGn; have x4 : wnHL4.cell? ⟨w.heap.size + 1, 4, none⟩ = some (.int .i64 wi) := c0.cell 4; have x5 : wnHL4.cell? ⟨w.heap.size + 1, 5, none⟩ = some (.int .i64 si) := c0.cell 5; have x6 : wnHL4.cell? ⟨w.heap.size + 1, 6, none⟩ = some (.int .i64 he) := c0.cell 6; have k0 : wnHL4.cell? ⟨gW, 0, none⟩ = some (.int .i64 a0) := bW.cell 0; have k1 : wnHL4.cell? ⟨gW, 1, none⟩ = some (.int .i64 a1) := bW.cell 1; have k2 : wnHL4.cell? ⟨gW, 2, none⟩ = some (.int .i64 a2) := bW.cell 2; have k3 : wnHL4.cell? ⟨gW, 3, none⟩ = some (.int .i64 a3) := bW.cell 3; have k4 : wnHL4.cell? ⟨gW, 4, none⟩ = some (.int .i64 a4) := bW.cell 4; have k5 : wnHL4.cell? ⟨gW, 5, none⟩ = some (.int .i64 a5) := bW.cell 5; have lx := c0.lt; have lW := bW.lt) | (go_at_call 18; refine (HL5.out _).mono ?_; rintro e wnHL5 ⟨rfl, hGn⟩; clear HL5; clear x4 x5 x6 k0 k1 k2 k3 k4 k5 lx lW; replace c0 := c0.keep hGn; replace bW := bW.keep hGn; replace b0 := b0.keep hGn; replace g0 := g0.t hGn; clear hGn; have x4 : wnHL5.cell? ⟨w.heap.size + 1, 4, none⟩ = some (.int .i64 wi) := c0.cell 4; have x5 : wnHL5.cell? ⟨w.heap.size + 1, 5, none⟩ = some (.int .i64 si) := c0.cell 5; have x6 : wnHL5.cell? ⟨w.heap.size + 1, 6, none⟩ = some (.int .i64 he) := c0.cell 6; have k0 : wnHL5.cell? ⟨gW, 0, none⟩ = some (.int .i64 a0) := bW.cell 0; have k1 : wnHL5.cell? ⟨gW, 1, none⟩ = some (.int .i64 a1) := bW.cell 1; have k2 : wnHL5.cell? ⟨gW, 2, none⟩ = some (.int .i64 a2) := bW.cell 2; have k3 : wnHL5.cell? ⟨gW, 3, none⟩ = some (.int .i64 a3) := bW.cell 3; have k4 : wnHL5.cell? ⟨gW, 4, none⟩ = some (.int .i64 a4) := bW.cell 4; have k5 : wnHL5.cell? ⟨gW, 5, none⟩ = some (.int .i64 a5) := bW.cell 5; have lx := c0.lt; have lW := bW.lt) | (go_at_call 18; refine (HL6.out _).mono ?_; rintro e wnHL6 ⟨rfl, hGn⟩; clear HL6; clear x4 x5 x6 k0 k1 k2 k3 k4 k5 lx lW; replace c0 := c0.keep hGn; replace bW := bW.keep hGn; replace b0 := b0.keep hGn; replace g0 := g0.t hGn; clear hGn; have x4 : wnHL6.cell? ⟨w.heap.size + 1, 4, none⟩ = some (.int .i64 wi) := c0.cell 4; have x5 : wnHL6.cell? ⟨w.heap.size + 1, 5, none⟩ = some (.int .i64 si) := c0.cell 5; have x6 : wnHL6.cell? ⟨w.heap.size + 1, 6, none⟩ = some (.int .i64 he) := c0.cell 6; have k0 : wnHL6.cell? ⟨gW, 0, none⟩ = some (.int .i64 a0) := bW.cell 0; have k1 : wnHL6.cell? ⟨gW, 1, none⟩ = some (.int .i64 a1) := bW.cell 1; have k2 : wnHL6.cell? ⟨gW, 2, none⟩ = some (.int .i64 a2) := bW.cell 2; have k3 : wnHL6.cell? ⟨gW, 3, none⟩ = some (.int .i64 a3) := bW.cell 3; have k4 : wnHL6.cell? ⟨gW, 4, none⟩ = some (.int .i64 a4) := bW.cell 4; have k5 : wnHL6.cell? ⟨gW, 5, none⟩ = some (.int .i64 a5) := bW.cell 5; have lx := c0.lt; have lW := bW.lt) | (go_at_call 13; refine (HWK.out _).mono ?_; rintro e w9 ⟨rfl, hG9⟩))
      go_ret
      exact ⟨rfl, g0.t hG9⟩
    rw [e6] at HL6
    have hb4 : a0 ≤ wi ∧ wi ≤ a1 := by unfold isInB at e4; simpa using e4
    have hb5 : a2 ≤ si ∧ si ≤ a3 := by unfold isInB at e5; simpa using e5
    have hb6 : a4 ≤ he ∧ he ≤ a5 := by unfold isInB at e6; simpa using e6
    have HB4 := Lib.hid hb4
    have HB5 := Lib.hid hb5
    have HB6 := Lib.hid hb6
    clear e4 e5 e6 hb4 hb5 hb6
    go_upto_region 22 with (first | (go_at_call 18; refine (HL4.out _).mono ?_; rintro e wnHL4 ⟨rfl, hGn⟩; clear HL4; clear x4 x5 x6 k0 k1 k2 k3 k4 k5 lx lW; replace c0 := c0.keep hGn; replace bW := bW.keep hGn; replace b0 := b0.keep hGn; replace g0 := g0.t hGn; clear hGn; have x4 : wnHL4.cell? ⟨w.heap.size + 1, 4, none⟩ = some (.int .i64 wi) := c0.cell 4; have x5 : wnHL4.cell? ⟨w.heap.size + 1, 5, none⟩ = some (.int .i64 si) := c0.cell 5; have x6 : wnHL4.cell? ⟨w.heap.size + 1, 6, none⟩ = some (.int .i64 he) := c0.cell 6; have k0 : wnHL4.cell? ⟨gW, 0, none⟩ = some (.int .i64 a0) := bW.cell 0; have k1 : wnHL4.cell? ⟨gW, 1, none⟩ = some (.int .i64 a1) := bW.cell 1; have k2 : wnHL4.cell? ⟨gW, 2, none⟩ = some (.int .i64 a2) := bW.cell 2; have k3 : wnHL4.cell? ⟨gW, 3, none⟩ = some (.int .i64 a3) := bW.cell 3; have k4 : wnHL4.cell? ⟨gW, 4, none⟩ = some (.int .i64 a4) := bW.cell 4; have k5 : wnHL4.cell? ⟨gW, 5, none⟩ = some (.int .i64 a5) := bW.cell 5; have lx := c0.lt; have lW := bW.lt) | (go_at_call 18; refine (HL5.out _).mono ?_; rintro e wnHL5 ⟨rfl, hGn⟩; clear HL5; clear x4 x5 x6 k0 k1 k2 k3 k4 k5 lx lW; replace c0 := c0.keep hGn; replace bW := bW.keep hGn; replace b0 := b0.keep hGn; replace g0 := g0.t hGn; clear hGn; have x4 : wnHL5.cell? ⟨w.heap.size + 1, 4, none⟩ = some (.int .i64 wi) := c0.cell 4; have x5 : wnHL5.cell? ⟨w.heap.size + 1, 5, none⟩ = some (.int .i64 si) := c0.cell 5; have x6 : wnHL5.cell? ⟨w.heap.size + 1, 6, none⟩ = some (.int .i64 he) := c0.cell 6; have k0 : wnHL5.cell? ⟨gW, 0, none⟩ = some (.int .i64 a0) := bW.cell 0; have k1 : wnHL5.cell? ⟨gW, 1, none⟩ = some (.int .i64 a1) := bW.cell 1; have k2 : wnHL5.cell? ⟨gW, 2, none⟩ = some (.int .i64 a2) := bW.cell 2; have k3 : wnHL5.cell? ⟨gW, 3, none⟩ = some (.int .i64 a3) := bW.cell 3; have k4 : wnHL5.cell? ⟨gW, 4, none⟩ = some (.int .i64 a4) := bW.cell 4; have k5 : wnHL5.cell? ⟨gW, 5, none⟩ = some (.int .i64 a5) := bW.cell 5; have lx := c0.lt; have lW := bW.lt) | (go_at_call 18; refine (HL6.out _).mono ?_; rintro e wnHL6 ⟨rfl, hGn⟩; clear HL6; clear x4 x5 x6 k0 k1 k2 k3 k4 k5 lx lW; replace c0 := c0.keep hGn; replace bW := bW.keep hGn; replace b0 := b0.keep hGn; replace g0 := g0.t hGn; clear hGn; have x4 : wnHL6.cell? ⟨w.heap.size + 1, 4, none⟩ = some (.int .i64 wi) := c0.cell 4; have x5 : wnHL6.cell? ⟨w.heap.size + 1, 5, none⟩ = some (.int .i64 si) := c0.cell 5; have x6 : wnHL6.cell? ⟨w.heap.size + 1, 6, none⟩ = some (.int .i64 he) := c0.cell 6; have k0 : wnHL6.cell? ⟨gW, 0, none⟩ = some (.int .i64 a0) := bW.cell 0; have k1 : wnHL6.cell? ⟨gW, 1, none⟩ = some (.int .i64 a1) := bW.cell 1; have k2 : wnHL6.cell? ⟨gW, 2, none⟩ = some (.int .i64 a2) := bW.cell 2; have k3 : wnHL6.cell? ⟨gW, 3, none⟩ = some (.int .i64 a3) := bW.cell 3; have k4 : wnHL6.cell? ⟨gW, 4, none⟩ = some (.int .i64 a4) := bW.cell 4; have k5 : wnHL6.cell? ⟨gW, 5, none⟩ = some (.int .i64 a5) := bW.cell 5; have lx := c0.lt; have lW := bW.lt))
    have y12 := (b0.cell 12).trans h12
    have y13 := (b0.cell 13).trans h13
    have y14 := (b0.cell 14).trans h14
    have lb := b0.lt
    have hb4 := HB4.out
    have hb5 := HB5.out
    have hb6 := HB6.out
    by_cases h1 : s1 = 1
    · obtain ⟨l1, l2, l3⟩ := HL.out h1
      subst h1
      have t1 : decide (wi ≤ lw) = true := decide_eq_true (by omega)
      have t2 : decide (lg ≤ si) = true := decide_eq_true (by omega)
      have t3 : decide (he ≤ lh) = true := decide_eq_true (by omega)
      clear l1 l2 l3 hb4 hb5 hb6 HNE1
      go_upto_region 23 with fail
      clear y12 y13 y14 lb x4 x5 x6 k0 k1 k2 k3 k4 k5 lx lW
      have x1 := c0.cell 1
      have lx := c0.lt
      refine wp_region_lit ?_
      refine wpList_load35 w.heap.size 2 HIS.out rfl rfl rfl b0 ?_
      try simp only [Act.put, List.getElem_toArray, List.getElem_cons_zero, List.getElem_cons_succ, List.setIfInBounds_toArray, List.set_cons_zero, List.set_cons_succ]
      go_upto_region 24 with (go_at_call 20; refine (HF.out _ g0).mono ?_; rintro e wf ⟨rfl, hGf⟩)
      clear x1 lx
      replace c0 := c0.keep hGf
      replace g0 := g0.t hGf
      have x1 : wf.cell? ⟨w.heap.size + 1, 1, none⟩ = some (.int .i64 (m : Nat)) := c0.cell 1
      have lx := c0.lt
      rcases HFE.out with ⟨rfl, rfl⟩ | rfl
      · go_wp2_with (go_at_call 13; refine (HWK.out _).mono ?_; rintro e w9 ⟨rfl, hG9⟩)
        go_ret
        exact ⟨rfl, g0.t hG9⟩
      · go_wp2_with (go_at_call 13; refine (HWK.out _).mono ?_; rintro e w9 ⟨rfl, hG9⟩)
        go_ret
        exact ⟨rfl, g0.t hG9⟩
    clear hb4 hb5 hb6
    by_cases c1 : wi ≤ lw
    · have t1 : decide (wi ≤ lw) = true := decide_eq_true (by omega)
      by_cases c2 : lg ≤ si
      · have t2 : decide (lg ≤ si) = true := decide_eq_true (by omega)
        by_cases c3 : he ≤ lh
        · have t3 : decide (he ≤ lh) = true := decide_eq_true (by omega)
          go_upto_region 23 with fail
          clear y12 y13 y14 lb x4 x5 x6 k0 k1 k2 k3 k4 k5 lx lW
          have x1 := c0.cell 1
          have lx := c0.lt
          refine wp_region_lit ?_
          refine wpList_load35 w.heap.size 2 HIS.out rfl rfl rfl b0 ?_
          try simp only [Act.put, List.getElem_toArray, List.getElem_cons_zero, List.getElem_cons_succ, List.setIfInBounds_toArray, List.set_cons_zero, List.set_cons_succ]
          go_upto_region 24 with (go_at_call 20; refine (HF.out _ g0).mono ?_; rintro e wf ⟨rfl, hGf⟩)
          clear x1 lx
          replace c0 := c0.keep hGf
          replace g0 := g0.t hGf
          have x1 : wf.cell? ⟨w.heap.size + 1, 1, none⟩ = some (.int .i64 (m : Nat)) := c0.cell 1
          have lx := c0.lt
          obtain rfl := HNE1.out h1
          have n1 : (s1 != 1) = true := by simpa using h1
          clear HFE
          go_wp2_with (go_at_call 13; refine (HWK.out _).mono ?_; rintro e w9 ⟨rfl, hG9⟩)
          go_ret
          exact ⟨rfl, g0.t hG9⟩
        · have t3 : decide (he ≤ lh) = false := decide_eq_false (by omega)
          go_upto_region 23 with fail
          clear y12 y13 y14 lb x4 x5 x6 k0 k1 k2 k3 k4 k5 lx lW
          have x1 := c0.cell 1
          have lx := c0.lt
          refine wp_region_lit ?_
          refine wpList_load35 w.heap.size 2 HIS.out rfl rfl rfl b0 ?_
          try simp only [Act.put, List.getElem_toArray, List.getElem_cons_zero, List.getElem_cons_succ, List.setIfInBounds_toArray, List.set_cons_zero, List.set_cons_succ]
          go_upto_region 24 with (go_at_call 20; refine (HF.out _ g0).mono ?_; rintro e wf ⟨rfl, hGf⟩)
          clear x1 lx
          replace c0 := c0.keep hGf
          replace g0 := g0.t hGf
          have x1 : wf.cell? ⟨w.heap.size + 1, 1, none⟩ = some (.int .i64 (m : Nat)) := c0.cell 1
          have lx := c0.lt
          obtain rfl := HNE1.out h1
          have n1 : (s1 != 1) = true := by simpa using h1
          clear HFE
          go_wp2_with (go_at_call 13; refine (HWK.out _).mono ?_; rintro e w9 ⟨rfl, hG9⟩)
          go_ret
          exact ⟨rfl, g0.t hG9⟩
      · have t2 : decide (lg ≤ si) = false := decide_eq_false (by omega)
        go_upto_region 23 with fail
        clear y12 y13 y14 lb x4 x5 x6 k0 k1 k2 k3 k4 k5 lx lW
        have x1 := c0.cell 1
        have lx := c0.lt
        refine wp_region_lit ?_
        refine wpList_load35 w.heap.size 2 HIS.out rfl rfl rfl b0 ?_
        try simp only [Act.put, List.getElem_toArray, List.getElem_cons_zero, List.getElem_cons_succ, List.setIfInBounds_toArray, List.set_cons_zero, List.set_cons_succ]
        go_upto_region 24 with (go_at_call 20; refine (HF.out _ g0).mono ?_; rintro e wf ⟨rfl, hGf⟩)
        clear x1 lx
        replace c0 := c0.keep hGf
        replace g0 := g0.t hGf
        have x1 : wf.cell? ⟨w.heap.size + 1, 1, none⟩ = some (.int .i64 (m : Nat)) := c0.cell 1
        have lx := c0.lt
        obtain rfl := HNE1.out h1
        have n1 : (s1 != 1) = true := by simpa using h1
        clear HFE
        go_wp2_with (go_at_call 13; refine (HWK.out _).mono ?_; rintro e w9 ⟨rfl, hG9⟩)
        go_ret
        exact ⟨rfl, g0.t hG9⟩
    · have t1 : decide (wi ≤ lw) = false := decide_eq_false (by omega)
      go_upto_region 23 with fail
      clear y12 y13 y14 lb x4 x5 x6 k0 k1 k2 k3 k4 k5 lx lW
      have x1 := c0.cell 1
      have lx := c0.lt
      refine wp_region_lit ?_
      refine wpList_load35 w.heap.size 2 HIS.out rfl rfl rfl b0 ?_
      try simp only [Act.put, List.getElem_toArray, List.getElem_cons_zero, List.getElem_cons_succ, List.setIfInBounds_toArray, List.set_cons_zero, List.set_cons_succ]
      go_upto_region 24 with (go_at_call 20; refine (HF.out _ g0).mono ?_; rintro e wf ⟨rfl, hGf⟩)
      clear x1 lx
      replace c0 := c0.keep hGf
      replace g0 := g0.t hGf
      have x1 : wf.cell? ⟨w.heap.size + 1, 1, none⟩ = some (.int .i64 (m : Nat)) := c0.cell 1
      have lx := c0.lt
      obtain rfl := HNE1.out h1
      have n1 : (s1 != 1) = true := by simpa using h1
      clear HFE
      go_wp2_with (go_at_call 13; refine (HWK.out _).mono ?_; rintro e w9 ⟨rfl, hG9⟩)
      go_ret
      exact ⟨rfl, g0.t hG9⟩
  · go_simp
    refine hK11.out _ _ (hSk.out _ (ga.a _)) (fun hS => ?_)
    try simp only [Act.put, List.getElem_toArray, List.getElem_cons_zero, List.getElem_cons_succ, List.setIfInBounds_toArray, List.set_cons_zero, List.set_cons_succ]
    have bW : Blk (wc.drew.alloc (.cells #[.int .i64 0, .int .i64 0, .int .i64 0, .int .i64 0, .int .i64 0, .int .i64 0] 55)) wc.heap.size 55 #[.int .i64 0, .int .i64 0, .int .i64 0, .int .i64 0, .int .i64 0, .int .i64 0] := Blk.new _ _ _
    have gy := ga.a (.cells #[.int .i64 0, .int .i64 0, .int .i64 0, .int .i64 0, .int .i64 0, .int .i64 0] 55)
    have hszW : wc.heap.size ≤ wc.heap.size := Nat.le_refl _
    refine wpAnyY_oneSW (i := 7) (by kernel_rfl) rfl (by kernel_rfl) (fun K7b hK7b => ?_)
    go_simp
    refine (HWK2.out _ (g0.t gy)).mono ?_
    rintro e wd ⟨rfl, hG7⟩
    replace gy := gy.t hG7
    replace bW := bW.keep hG7
    refine hK7b.out _ _ (hSk.out _ gy) (fun hS => ?_)
    try simp only [Act.put, List.getElem_toArray, List.getElem_cons_zero, List.getElem_cons_succ, List.setIfInBounds_toArray, List.set_cons_zero, List.set_cons_succ]
    refine wpAnyY_take (i := 8) (v := ?_) rfl (by kernel_rfl) (by kernel_rfl) (by kernel_rfl) (by kernel_rfl) (fun _ _ _ h => h) (Or.inl ⟨by kernel_rfl, ?_⟩) hS ?_
    rotate_left
    · intro w' hSw; go_simp; with_reducible rfl
    try simp only [Act.put, List.getElem_toArray, List.getElem_cons_zero, List.getElem_cons_succ, List.setIfInBounds_toArray, List.set_cons_zero, List.set_cons_succ]
    refine wpAnyY_take (i := 9) (v := ?_) rfl (by kernel_rfl) (by kernel_rfl) (by kernel_rfl) (by kernel_rfl) (fun _ _ _ h => h) (Or.inl ⟨by kernel_rfl, ?_⟩) hS ?_
    rotate_left
    · intro w' hSw; go_simp; with_reducible rfl
    try simp only [Act.put, List.getElem_toArray, List.getElem_cons_zero, List.getElem_cons_succ, List.setIfInBounds_toArray, List.set_cons_zero, List.set_cons_succ]
    refine wpAnyY_take (i := 10) (v := ?_) rfl (by kernel_rfl) (by kernel_rfl) (by kernel_rfl) (by kernel_rfl) (fun _ _ _ h => h) (Or.inl ⟨by kernel_rfl, ?_⟩) hS ?_
    rotate_left
    · intro w' hSw; go_simp; with_reducible rfl
    try simp only [Act.put, List.getElem_toArray, List.getElem_cons_zero, List.getElem_cons_succ, List.setIfInBounds_toArray, List.set_cons_zero, List.set_cons_succ]
    obtain ⟨gW, hgW⟩ : ∃ gW, gW = wc.heap.size := ⟨_, rfl⟩
    rw [← hgW] at bW ⊢
    replace hszW : wc.heap.size ≤ gW := Nat.le_of_eq hgW.symm
    clear hgW
    have q0 : wd.cell? ⟨gW, 0, none⟩ = some (.int .i64 0) := bW.cell 0
    have z0 := bW.frozen 0
    have q1 : wd.cell? ⟨gW, 1, none⟩ = some (.int .i64 0) := bW.cell 1
    have z1 := bW.frozen 1
    have q2 : wd.cell? ⟨gW, 2, none⟩ = some (.int .i64 0) := bW.cell 2
    have z2 := bW.frozen 2
    have q3 : wd.cell? ⟨gW, 3, none⟩ = some (.int .i64 0) := bW.cell 3
    have z3 := bW.frozen 3
    have q4 : wd.cell? ⟨gW, 4, none⟩ = some (.int .i64 0) := bW.cell 4
    have z4 := bW.frozen 4
    have q5 : wd.cell? ⟨gW, 5, none⟩ = some (.int .i64 0) := bW.cell 5
    have z5 := bW.frozen 5
    have lW := bW.lt
    refine wpAnyY_oneSW (i := 12) (by kernel_rfl) rfl (by kernel_rfl) (fun K12 hK12 => ?_)
    go_simp
    refine hK12.out _ _ (hSk.out _ (W6_G hszW gy (.int .i64 a0) (.int .i64 a1) (.int .i64 a2) (.int .i64 a3) (.int .i64 a4) (.int .i64 a5))) (fun hS => ?_)
    try simp only [Act.put, List.getElem_toArray, List.getElem_cons_zero, List.getElem_cons_succ, List.setIfInBounds_toArray, List.set_cons_zero, List.set_cons_succ]
    refine wpAnyY_oneW (i := 13) (by kernel_rfl) rfl (by kernel_rfl) (by kernel_rfl) (fun K13 hK13 => ?_)
    go_simp
    refine hK13.out _ _ ?_
    try simp only [Act.put, List.getElem_toArray, List.getElem_cons_zero, List.getElem_cons_succ, List.setIfInBounds_toArray, List.set_cons_zero, List.set_cons_succ]
    refine wpAnyY_done (by kernel_rfl) ?_ _
    clear hS hK11 hK7b HWK2 q0 z0 q1 z1 q2 z2 q3 z3 q4 z4 q5 z5 lW
    have bW2 : Blk ((((((wd.setCell ⟨gW, 0, none⟩ (.int .i64 a0)).setCell ⟨gW, 1, none⟩ (.int .i64 a1)).setCell ⟨gW, 2, none⟩ (.int .i64 a2)).setCell ⟨gW, 3, none⟩ (.int .i64 a3)).setCell ⟨gW, 4, none⟩ (.int .i64 a4)).setCell ⟨gW, 5, none⟩ (.int .i64 a5)) gW 55 #[.int .i64 a0, .int .i64 a1, .int .i64 a2, .int .i64 a3, .int .i64 a4, .int .i64 a5] := W6_blk bW _ _ _ _ _ _
    have gz : G wc ((((((wd.setCell ⟨gW, 0, none⟩ (.int .i64 a0)).setCell ⟨gW, 1, none⟩ (.int .i64 a1)).setCell ⟨gW, 2, none⟩ (.int .i64 a2)).setCell ⟨gW, 3, none⟩ (.int .i64 a3)).setCell ⟨gW, 4, none⟩ (.int .i64 a4)).setCell ⟨gW, 5, none⟩ (.int .i64 a5)) := W6_G hszW gy (.int .i64 a0) (.int .i64 a1) (.int .i64 a2) (.int .i64 a3) (.int .i64 a4) (.int .i64 a5)
    obtain ⟨wz, hwz⟩ : ∃ wz, wz = (((((wd.setCell ⟨gW, 0, none⟩ (.int .i64 a0)).setCell ⟨gW, 1, none⟩ (.int .i64 a1)).setCell ⟨gW, 2, none⟩ (.int .i64 a2)).setCell ⟨gW, 3, none⟩ (.int .i64 a3)).setCell ⟨gW, 4, none⟩ (.int .i64 a4)).setCell ⟨gW, 5, none⟩ (.int .i64 a5) := ⟨_, rfl⟩
    rw [← hwz] at bW2 gz ⊢
    clear bW hSk
    have bW := bW2
    clear bW2
    replace b0 := b0.keep gz
    replace c0 := c0.keep gz
    replace g0 := g0.t gz
    clear gz gy ga hwz hG7 hszW
    have x4 : wz.cell? ⟨w.heap.size + 1, 4, none⟩ = some (.int .i64 wi) := c0.cell 4
    have x5 : wz.cell? ⟨w.heap.size + 1, 5, none⟩ = some (.int .i64 si) := c0.cell 5
    have x6 : wz.cell? ⟨w.heap.size + 1, 6, none⟩ = some (.int .i64 he) := c0.cell 6
    have k0 : wz.cell? ⟨gW, 0, none⟩ = some (.int .i64 a0) := bW.cell 0
    have k1 : wz.cell? ⟨gW, 1, none⟩ = some (.int .i64 a1) := bW.cell 1
    have k2 : wz.cell? ⟨gW, 2, none⟩ = some (.int .i64 a2) := bW.cell 2
    have k3 : wz.cell? ⟨gW, 3, none⟩ = some (.int .i64 a3) := bW.cell 3
    have k4 : wz.cell? ⟨gW, 4, none⟩ = some (.int .i64 a4) := bW.cell 4
    have k5 : wz.cell? ⟨gW, 5, none⟩ = some (.int .i64 a5) := bW.cell 5
    have lx := c0.lt
    have lW := bW.lt
    have HL4 := Lib.hid (fun W : World => lawIn_any wi a0 a1 W)
    have HL5 := Lib.hid (fun W : World => lawIn_any si a2 a3 W)
    have HL6 := Lib.hid (fun W : World => lawIn_any he a4 a5 W)
    cases e4 : isInB wi a0 a1
    · rw [e4] at HL4
      clear e4 HL5 HL6
      go_wp2_with (first | (go_at_call 18; refine (HL4.out _).mono ?_; rintro e wnHL4 ⟨rfl, hGn⟩; clear HL4; clear x4 x5 x6 k0 k1 k2 k3 k4 k5 lx lW; replace c0 := c0.keep hGn; replace bW := bW.keep hGn; replace b0 := b0.keep hGn; replace g0 := g0.t hGn; clear hGn; have x4 : wnHL4.cell? ⟨w.heap.size + 1, 4, none⟩ = some (.int .i64 wi) := c0.cell 4; have x5 : wnHL4.cell? ⟨w.heap.size + 1, 5, none⟩ = some (.int .i64 si) := c0.cell 5; have x6 : wnHL4.cell? ⟨w.heap.size + 1, 6, none⟩ = some (.int .i64 he) := c0.cell 6; have k0 : wnHL4.cell? ⟨gW, 0, none⟩ = some (.int .i64 a0) := bW.cell 0; have k1 : wnHL4.cell? ⟨gW, 1, none⟩ = some (.int .i64 a1) := bW.cell 1; have k2 : wnHL4.cell? ⟨gW, 2, none⟩ = some (.int .i64 a2) := bW.cell 2; have k3 : wnHL4.cell? ⟨gW, 3, none⟩ = some (.int .i64 a3) := bW.cell 3; have k4 : wnHL4.cell? ⟨gW, 4, none⟩ = some (.int .i64 a4) := bW.cell 4; have k5 : wnHL4.cell? ⟨gW, 5, none⟩ = some (.int .i64 a5) := bW.cell 5; have lx := c0.lt; have lW := bW.lt) | (go_at_call 13; refine (HWK.out _).mono ?_; rintro e w9 ⟨rfl, hG9⟩))
      go_ret
      exact ⟨rfl, g0.t hG9⟩
    rw [e4] at HL4
    cases e5 : isInB si a2 a3
    · rw [e5] at HL5
      clear e4 e5 HL6
      go_wp2_with (first | (go_at_call 18; refine (HL4.out _).mono ?_; rintro e wnHL4 ⟨rfl, hGn⟩; clear HL4; clear x4 x5 x6 k0 k1 k2 k3 k4 k5 lx lW; replace c0 := c0.keep hGn; replace bW := bW.keep hGn; replace b0 := b0.keep hGn; replace g0 := g0.t hGn; clear hGn; have x4 : wnHL4.cell? ⟨w.heap.size + 1, 4, none⟩ = some (.int .i64 wi) := c0.cell 4; have x5 : wnHL4.cell? ⟨w.heap.size + 1, 5, none⟩ = some (.int .i64 si) := c0.cell 5; have x6 : wnHL4.cell? ⟨w.heap.size + 1, 6, none⟩ = some (.int .i64 he) := c0.cell 6; have k0 : wnHL4.cell? ⟨gW, 0, none⟩ = some (.int .i64 a0) := bW.cell 0; have k1 : wnHL4.cell? ⟨gW, 1, none⟩ = some (.int .i64 a1) := bW.cell 1; have k2 : wnHL4.cell? ⟨gW, 2, none⟩ = some (.int .i64 a2) := bW.cell 2; have k3 : wnHL4.cell? ⟨gW, 3, none⟩ = some (.int .i64 a3) := bW.cell 3; have k4 : wnHL4.cell? ⟨gW, 4, none⟩ = some (.int .i64 a4) := bW.cell 4; have k5 : wnHL4.cell? ⟨gW, 5, none⟩ = some (.int .i64 a5) := bW.cell 5; have lx := c0.lt; have lW := bW.lt) | (go_at_call 18; refine (HL5.out _).mono ?_; rintro e wnHL5 ⟨rfl, hGn⟩; clear HL5; clear x4 x5 x6 k0 k1 k2 k3 k4 k5 lx lW; replace c0 := c0.keep hGn; replace bW := bW.keep hGn; replace b0 := b0.keep hGn; replace g0 := g0.t hGn; clear hGn; have x4 : wnHL5.cell? ⟨w.heap.size + 1, 4, none⟩ = some (.int .i64 wi) := c0.cell 4; have x5 : wnHL5.cell? ⟨w.heap.size + 1, 5, none⟩ = some (.int .i64 si) := c0.cell 5; have x6 : wnHL5.cell? ⟨w.heap.size + 1, 6, none⟩ = some (.int .i64 he) := c0.cell 6; have k0 : wnHL5.cell? ⟨gW, 0, none⟩ = some (.int .i64 a0) := bW.cell 0; have k1 : wnHL5.cell? ⟨gW, 1, none⟩ = some (.int .i64 a1) := bW.cell 1; have k2 : wnHL5.cell? ⟨gW, 2, none⟩ = some (.int .i64 a2) := bW.cell 2; have k3 : wnHL5.cell? ⟨gW, 3, none⟩ = some (.int .i64 a3) := bW.cell 3; have k4 : wnHL5.cell? ⟨gW, 4, none⟩ = some (.int .i64 a4) := bW.cell 4; have k5 : wnHL5.cell? ⟨gW, 5, none⟩ = some (.int .i64 a5) := bW.cell 5; have lx := c0.lt; have lW := bW.lt) | (go_at_call 13; refine (HWK.out _).mono ?_; rintro e w9 ⟨rfl, hG9⟩))
      go_ret
      exact ⟨rfl, g0.t hG9⟩
    rw [e5] at HL5
    cases e6 : isInB he a4 a5
    · rw [e6] at HL6
      clear e4 e5 e6
      go_wp2_with (first | (go_at_call 18; refine (HL4.out _).mono ?_; rintro e wnHL4 ⟨rfl, hGn⟩; clear HL4; clear x4 x5 x6 k0 k1 k2 k3 k4 k5 lx lW; replace c0 := c0.keep hGn; replace bW := bW.keep hGn; replace b0 := b0.keep hGn; replace g0 := g0.t hGn; clear hGn; have x4 : wnHL4.cell? ⟨w.heap.size + 1, 4, none⟩ = some (.int .i64 wi) := c0.cell 4; have x5 : wnHL4.cell? ⟨w.heap.size + 1, 5, none⟩ = some (.int .i64 si) := c0.cell 5; have x6 : wnHL4.cell? ⟨w.heap.size + 1, 6, none⟩ = some (.int .i64 he) := c0.cell 6; have k0 : wnHL4.cell? ⟨gW, 0, none⟩ = some (.int .i64 a0) := bW.cell 0; have k1 : wnHL4.cell? ⟨gW, 1, none⟩ = some (.int .i64 a1) := bW.cell 1; have k2 : wnHL4.cell? ⟨gW, 2, none⟩ = some (.int .i64 a2) := bW.cell 2; have k3 : wnHL4.cell? ⟨gW, 3, none⟩ = some (.int .i64 a3) := bW.cell 3; have k4 : wnHL4.cell? ⟨gW, 4, none⟩ = some (.int .i64 a4) := bW.cell 4; have k5 : wnHL4.cell? ⟨gW, 5, none⟩ = some (.int .i64 a5) := bW.cell 5; have lx := c0.lt; have lW := bW.lt) | (go_at_call 18; refine (HL5.out _).mono ?_; rintro e wnHL5 ⟨rfl, hGn⟩; clear HL5; clear x4 x5 x6 k0 k1 k2 k3 k4 k5 lx lW; replace c0 := c0.keep hGn; replace bW := bW.keep hGn; replace b0 := b0.keep hGn; replace g0 := g0.t hGn; clear hGn; have x4 : wnHL5.cell? ⟨w.heap.size + 1, 4, none⟩ = some (.int .i64 wi) := c0.cell 4; have x5 : wnHL5.cell? ⟨w.heap.size + 1, 5, none⟩ = some (.int .i64 si) := c0.cell 5; have x6 : wnHL5.cell? ⟨w.heap.size + 1, 6, none⟩ = some (.int .i64 he) := c0.cell 6; have k0 : wnHL5.cell? ⟨gW, 0, none⟩ = some (.int .i64 a0) := bW.cell 0; have k1 : wnHL5.cell? ⟨gW, 1, none⟩ = some (.int .i64 a1) := bW.cell 1; have k2 : wnHL5.cell? ⟨gW, 2, none⟩ = some (.int .i64 a2) := bW.cell 2; have k3 : wnHL5.cell? ⟨gW, 3, none⟩ = some (.int .i64 a3) := bW.cell 3; have k4 : wnHL5.cell? ⟨gW, 4, none⟩ = some (.int .i64 a4) := bW.cell 4; have k5 : wnHL5.cell? ⟨gW, 5, none⟩ = some (.int .i64 a5) := bW.cell 5; have lx := c0.lt; have lW := bW.lt) | (go_at_call 18; refine (HL6.out _).mono ?_; rintro e wnHL6 ⟨rfl, hGn⟩; clear HL6; clear x4 x5 x6 k0 k1 k2 k3 k4 k5 lx lW; replace c0 := c0.keep hGn; replace bW := bW.keep hGn; replace b0 := b0.keep hGn; replace g0 := g0.t hGn; clear hGn; have x4 : wnHL6.cell? ⟨w.heap.size + 1, 4, none⟩ = some (.int .i64 wi) := c0.cell 4; have x5 : wnHL6.cell? ⟨w.heap.size + 1, 5, none⟩ = some (.int .i64 si) := c0.cell 5; have x6 : wnHL6.cell? ⟨w.heap.size + 1, 6, none⟩ = some (.int .i64 he) := c0.cell 6; have k0 : wnHL6.cell? ⟨gW, 0, none⟩ = some (.int .i64 a0) := bW.cell 0; have k1 : wnHL6.cell? ⟨gW, 1, none⟩ = some (.int .i64 a1) := bW.cell 1; have k2 : wnHL6.cell? ⟨gW, 2, none⟩ = some (.int .i64 a2) := bW.cell 2; have k3 : wnHL6.cell? ⟨gW, 3, none⟩ = some (.int .i64 a3) := bW.cell 3; have k4 : wnHL6.cell? ⟨gW, 4, none⟩ = some (.int .i64 a4) := bW.cell 4; have k5 : wnHL6.cell? ⟨gW, 5, none⟩ = some (.int .i64 a5) := bW.cell 5; have lx := c0.lt; have lW := bW.lt) | (go_at_call 13; refine (HWK.out _).mono ?_; rintro e w9 ⟨rfl, hG9⟩))
      go_ret
      exact ⟨rfl, g0.t hG9⟩
    rw [e6] at HL6
    have hb4 : a0 ≤ wi ∧ wi ≤ a1 := by unfold isInB at e4; simpa using e4
    have hb5 : a2 ≤ si ∧ si ≤ a3 := by unfold isInB at e5; simpa using e5
    have hb6 : a4 ≤ he ∧ he ≤ a5 := by unfold isInB at e6; simpa using e6
    have HB4 := Lib.hid hb4
    have HB5 := Lib.hid hb5
    have HB6 := Lib.hid hb6
    clear e4 e5 e6 hb4 hb5 hb6
    go_upto_region 22 with (first | (go_at_call 18; refine (HL4.out _).mono ?_; rintro e wnHL4 ⟨rfl, hGn⟩; clear HL4; clear x4 x5 x6 k0 k1 k2 k3 k4 k5 lx lW; replace c0 := c0.keep hGn; replace bW := bW.keep hGn; replace b0 := b0.keep hGn; replace g0 := g0.t hGn; clear hGn; have x4 : wnHL4.cell? ⟨w.heap.size + 1, 4, none⟩ = some (.int .i64 wi) := c0.cell 4; have x5 : wnHL4.cell? ⟨w.heap.size + 1, 5, none⟩ = some (.int .i64 si) := c0.cell 5; have x6 : wnHL4.cell? ⟨w.heap.size + 1, 6, none⟩ = some (.int .i64 he) := c0.cell 6; have k0 : wnHL4.cell? ⟨gW, 0, none⟩ = some (.int .i64 a0) := bW.cell 0; have k1 : wnHL4.cell? ⟨gW, 1, none⟩ = some (.int .i64 a1) := bW.cell 1; have k2 : wnHL4.cell? ⟨gW, 2, none⟩ = some (.int .i64 a2) := bW.cell 2; have k3 : wnHL4.cell? ⟨gW, 3, none⟩ = some (.int .i64 a3) := bW.cell 3; have k4 : wnHL4.cell? ⟨gW, 4, none⟩ = some (.int .i64 a4) := bW.cell 4; have k5 : wnHL4.cell? ⟨gW, 5, none⟩ = some (.int .i64 a5) := bW.cell 5; have lx := c0.lt; have lW := bW.lt) | (go_at_call 18; refine (HL5.out _).mono ?_; rintro e wnHL5 ⟨rfl, hGn⟩; clear HL5; clear x4 x5 x6 k0 k1 k2 k3 k4 k5 lx lW; replace c0 := c0.keep hGn; replace bW := bW.keep hGn; replace b0 := b0.keep hGn; replace g0 := g0.t hGn; clear hGn; have x4 : wnHL5.cell? ⟨w.heap.size + 1, 4, none⟩ = some (.int .i64 wi) := c0.cell 4; have x5 : wnHL5.cell? ⟨w.heap.size + 1, 5, none⟩ = some (.int .i64 si) := c0.cell 5; have x6 : wnHL5.cell? ⟨w.heap.size + 1, 6, none⟩ = some (.int .i64 he) := c0.cell 6; have k0 : wnHL5.cell? ⟨gW, 0, none⟩ = some (.int .i64 a0) := bW.cell 0; have k1 : wnHL5.cell? ⟨gW, 1, none⟩ = some (.int .i64 a1) := bW.cell 1; have k2 : wnHL5.cell? ⟨gW, 2, none⟩ = some (.int .i64 a2) := bW.cell 2; have k3 : wnHL5.cell? ⟨gW, 3, none⟩ = some (.int .i64 a3) := bW.cell 3; have k4 : wnHL5.cell? ⟨gW, 4, none⟩ = some (.int .i64 a4) := bW.cell 4; have k5 : wnHL5.cell? ⟨gW, 5, none⟩ = some (.int .i64 a5) := bW.cell 5; have lx := c0.lt; have lW := bW.lt) | (go_at_call 18; refine (HL6.out _).mono ?_; rintro e wnHL6 ⟨rfl, hGn⟩; clear HL6; clear x4 x5 x6 k0 k1 k2 k3 k4 k5 lx lW; replace c0 := c0.keep hGn; replace bW := bW.keep hGn; replace b0 := b0.keep hGn; replace g0 := g0.t hGn; clear hGn; have x4 : wnHL6.cell? ⟨w.heap.size + 1, 4, none⟩ = some (.int .i64 wi) := c0.cell 4; have x5 : wnHL6.cell? ⟨w.heap.size + 1, 5, none⟩ = some (.int .i64 si) := c0.cell 5; have x6 : wnHL6.cell? ⟨w.heap.size + 1, 6, none⟩ = some (.int .i64 he) := c0.cell 6; have k0 : wnHL6.cell? ⟨gW, 0, none⟩ = some (.int .i64 a0) := bW.cell 0; have k1 : wnHL6.cell? ⟨gW, 1, none⟩ = some (.int .i64 a1) := bW.cell 1; have k2 : wnHL6.cell? ⟨gW, 2, none⟩ = some (.int .i64 a2) := bW.cell 2; have k3 : wnHL6.cell? ⟨gW, 3, none⟩ = some (.int .i64 a3) := bW.cell 3; have k4 : wnHL6.cell? ⟨gW, 4, none⟩ = some (.int .i64 a4) := bW.cell 4; have k5 : wnHL6.cell? ⟨gW, 5, none⟩ = some (.int .i64 a5) := bW.cell 5; have lx := c0.lt; have lW := bW.lt))
    have y12 := (b0.cell 12).trans h12
    have y13 := (b0.cell 13).trans h13
    have y14 := (b0.cell 14).trans h14
    have lb := b0.lt
    have hb4 := HB4.out
    have hb5 := HB5.out
    have hb6 := HB6.out
    by_cases h1 : s1 = 1
    · obtain ⟨l1, l2, l3⟩ := HL.out h1
      subst h1
      have t1 : decide (wi ≤ lw) = true := decide_eq_true (by omega)
      have t2 : decide (lg ≤ si) = true := decide_eq_true (by omega)
      have t3 : decide (he ≤ lh) = true := decide_eq_true (by omega)
      clear l1 l2 l3 hb4 hb5 hb6 HNE1
      go_upto_region 23 with fail
      clear y12 y13 y14 lb x4 x5 x6 k0 k1 k2 k3 k4 k5 lx lW
      have x1 := c0.cell 1
      have lx := c0.lt
      refine wp_region_lit ?_
      refine wpList_load35 w.heap.size 2 HIS.out rfl rfl rfl b0 ?_
      try simp only [Act.put, List.getElem_toArray, List.getElem_cons_zero, List.getElem_cons_succ, List.setIfInBounds_toArray, List.set_cons_zero, List.set_cons_succ]
      go_upto_region 24 with (go_at_call 20; refine (HF.out _ g0).mono ?_; rintro e wf ⟨rfl, hGf⟩)
      clear x1 lx
      replace c0 := c0.keep hGf
      replace g0 := g0.t hGf
      have x1 : wf.cell? ⟨w.heap.size + 1, 1, none⟩ = some (.int .i64 (m : Nat)) := c0.cell 1
      have lx := c0.lt
      rcases HFE.out with ⟨rfl, rfl⟩ | rfl
      · go_wp2_with (go_at_call 13; refine (HWK.out _).mono ?_; rintro e w9 ⟨rfl, hG9⟩)
        go_ret
        exact ⟨rfl, g0.t hG9⟩
      · go_wp2_with (go_at_call 13; refine (HWK.out _).mono ?_; rintro e w9 ⟨rfl, hG9⟩)
        go_ret
        exact ⟨rfl, g0.t hG9⟩
    clear hb4 hb5 hb6
    by_cases c1 : wi ≤ lw
    · have t1 : decide (wi ≤ lw) = true := decide_eq_true (by omega)
      by_cases c2 : lg ≤ si
      · have t2 : decide (lg ≤ si) = true := decide_eq_true (by omega)
        by_cases c3 : he ≤ lh
        · have t3 : decide (he ≤ lh) = true := decide_eq_true (by omega)
          go_upto_region 23 with fail
          clear y12 y13 y14 lb x4 x5 x6 k0 k1 k2 k3 k4 k5 lx lW
          have x1 := c0.cell 1
          have lx := c0.lt
          refine wp_region_lit ?_
          refine wpList_load35 w.heap.size 2 HIS.out rfl rfl rfl b0 ?_
          try simp only [Act.put, List.getElem_toArray, List.getElem_cons_zero, List.getElem_cons_succ, List.setIfInBounds_toArray, List.set_cons_zero, List.set_cons_succ]
          go_upto_region 24 with (go_at_call 20; refine (HF.out _ g0).mono ?_; rintro e wf ⟨rfl, hGf⟩)
          clear x1 lx
          replace c0 := c0.keep hGf
          replace g0 := g0.t hGf
          have x1 : wf.cell? ⟨w.heap.size + 1, 1, none⟩ = some (.int .i64 (m : Nat)) := c0.cell 1
          have lx := c0.lt
          obtain rfl := HNE1.out h1
          have n1 : (s1 != 1) = true := by simpa using h1
          clear HFE
          go_wp2_with (go_at_call 13; refine (HWK.out _).mono ?_; rintro e w9 ⟨rfl, hG9⟩)
          go_ret
          exact ⟨rfl, g0.t hG9⟩
        · have t3 : decide (he ≤ lh) = false := decide_eq_false (by omega)
          go_upto_region 23 with fail
          clear y12 y13 y14 lb x4 x5 x6 k0 k1 k2 k3 k4 k5 lx lW
          have x1 := c0.cell 1
          have lx := c0.lt
          refine wp_region_lit ?_
          refine wpList_load35 w.heap.size 2 HIS.out rfl rfl rfl b0 ?_
          try simp only [Act.put, List.getElem_toArray, List.getElem_cons_zero, List.getElem_cons_succ, List.setIfInBounds_toArray, List.set_cons_zero, List.set_cons_succ]
          go_upto_region 24 with (go_at_call 20; refine (HF.out _ g0).mono ?_; rintro e wf ⟨rfl, hGf⟩)
          clear x1 lx
          replace c0 := c0.keep hGf
          replace g0 := g0.t hGf
          have x1 : wf.cell? ⟨w.heap.size + 1, 1, none⟩ = some (.int .i64 (m : Nat)) := c0.cell 1
          have lx := c0.lt
          obtain rfl := HNE1.out h1
          have n1 : (s1 != 1) = true := by simpa using h1
          clear HFE
          go_wp2_with (go_at_call 13; refine (HWK.out _).mono ?_; rintro e w9 ⟨rfl, hG9⟩)
          go_ret
          exact ⟨rfl, g0.t hG9⟩
      · have t2 : decide (lg ≤ si) = false := decide_eq_false (by omega)
        go_upto_region 23 with fail
        clear y12 y13 y14 lb x4 x5 x6 k0 k1 k2 k3 k4 k5 lx lW
        have x1 := c0.cell 1
        have lx := c0.lt
        refine wp_region_lit ?_
        refine wpList_load35 w.heap.size 2 HIS.out rfl rfl rfl b0 ?_
        try simp only [Act.put, List.getElem_toArray, List.getElem_cons_zero, List.getElem_cons_succ, List.setIfInBounds_toArray, List.set_cons_zero, List.set_cons_succ]
        go_upto_region 24 with (go_at_call 20; refine (HF.out _ g0).mono ?_; rintro e wf ⟨rfl, hGf⟩)
        clear x1 lx
        replace c0 := c0.keep hGf
        replace g0 := g0.t hGf
        have x1 : wf.cell? ⟨w.heap.size + 1, 1, none⟩ = some (.int .i64 (m : Nat)) := c0.cell 1
        have lx := c0.lt
        obtain rfl := HNE1.out h1
        have n1 : (s1 != 1) = true := by simpa using h1
        clear HFE
        go_wp2_with (go_at_call 13; refine (HWK.out _).mono ?_; rintro e w9 ⟨rfl, hG9⟩)
        go_ret
        exact ⟨rfl, g0.t hG9⟩
    · have t1 : decide (wi ≤ lw) = false := decide_eq_false (by omega)
      go_upto_region 23 with fail
      clear y12 y13 y14 lb x4 x5 x6 k0 k1 k2 k3 k4 k5 lx lW
      have x1 := c0.cell 1
      have lx := c0.lt
      refine wp_region_lit ?_
      refine wpList_load35 w.heap.size 2 HIS.out rfl rfl rfl b0 ?_
      try simp only [Act.put, List.getElem_toArray, List.getElem_cons_zero, List.getElem_cons_succ, List.setIfInBounds_toArray, List.set_cons_zero, List.set_cons_succ]
      go_upto_region 24 with (go_at_call 20; refine (HF.out _ g0).mono ?_; rintro e wf ⟨rfl, hGf⟩)
      clear x1 lx
      replace c0 := c0.keep hGf
      replace g0 := g0.t hGf
      have x1 : wf.cell? ⟨w.heap.size + 1, 1, none⟩ = some (.int .i64 (m : Nat)) := c0.cell 1
      have lx := c0.lt
      obtain rfl := HNE1.out h1
      have n1 : (s1 != 1) = true := by simpa using h1
      clear HFE
      go_wp2_with (go_at_call 13; refine (HWK.out _).mono ?_; rintro e w9 ⟨rfl, hG9⟩)
      go_ret
      exact ⟨rfl, g0.t hG9⟩
end Go.Proofs.Ytcekdljjmfkacaa
set_option linter.unusedSimpArgs false
set_option linter.unusedVariables false
namespace Go.Proofs.Ytcekdljjmfkacaa
open Go.RowKit Go.Shelf
attribute [local go_sem] Oper.semAt_some wide_fn wide_dep wideR_fn wideR_dep
set_option maxRecDepth 100000 in
set_option maxHeartbeats 8000000 in
theorem InsideOut_walk (REL : Array Value) (home minute st af wi si he : Int) (w : World) (hIs : IsRel REL) (hV : ∀ W, G w W → Calls Try.prog 12 #[.agg REL, .int .i64 home, .int .i64 minute] W (ValidPost W False)) :
    Calls Try.prog 5 #[.agg REL, .agg #[.int .i64 home, .int .i64 minute, .int .i64 st, .int .i64 af, .int .i64 wi, .int .i64 si, .int .i64 he]] w fun e w' => e = .returned (.bool true) ∧ G w w' := by
  have HIS := Lib.hid hIs
  have HV := Lib.hid hV
  have HWK := Lib.hid (fun W : World => works_any W)
  clear hIs hV
  have g0 : G w ((w.alloc (.cells REL 35)).alloc (.cells #[.int .i64 home, .int .i64 minute, .int .i64 st, .int .i64 af, .int .i64 wi, .int .i64 si, .int .i64 he] 51)) := ((G.rf _).a _).a _
  have b0 : Blk ((w.alloc (.cells REL 35)).alloc (.cells #[.int .i64 home, .int .i64 minute, .int .i64 st, .int .i64 af, .int .i64 wi, .int .i64 si, .int .i64 he] 51)) w.heap.size 35 REL := (Blk.new w 35 REL).keep ((G.rf _).a _)
  have c0 : Blk ((w.alloc (.cells REL 35)).alloc (.cells #[.int .i64 home, .int .i64 minute, .int .i64 st, .int .i64 af, .int .i64 wi, .int .i64 si, .int .i64 he] 51)) (w.heap.size + 1) 51 #[.int .i64 home, .int .i64 minute, .int .i64 st, .int .i64 af, .int .i64 wi, .int .i64 si, .int .i64 he] := by
    have := Blk.new (w.alloc (.cells REL 35)) 51 #[.int .i64 home, .int .i64 minute, .int .i64 st, .int .i64 af, .int .i64 wi, .int .i64 si, .int .i64 he]
    rwa [show (w.alloc (.cells REL 35)).heap.size = w.heap.size + 1 by simp] at this
  go_enter Try.func5, Try.ntmps5
  go_upto_region 1 with fail
  change Code.wp _ _ _ _ ((w.alloc (.cells REL 35)).alloc (.cells #[.int .i64 home, .int .i64 minute, .int .i64 st, .int .i64 af, .int .i64 wi, .int .i64 si, .int .i64 he] 51))
  generalize (w.alloc (.cells REL 35)).alloc (.cells #[.int .i64 home, .int .i64 minute, .int .i64 st, .int .i64 af, .int .i64 wi, .int .i64 si, .int .i64 he] 51) = w1 at *
  have x0 : w1.cell? ⟨w.heap.size + 1, 0, none⟩ = some (.int .i64 home) := c0.cell 0
  have x1 : w1.cell? ⟨w.heap.size + 1, 1, none⟩ = some (.int .i64 minute) := c0.cell 1
  have lx := c0.lt
  refine wp_region_lit ?_
  refine wpList_load35 w.heap.size 2 HIS.out rfl rfl rfl b0 ?_
  try simp only [Act.put, List.getElem_toArray, List.getElem_cons_zero, List.getElem_cons_succ, List.setIfInBounds_toArray, List.set_cons_zero, List.set_cons_succ]
  refine wpList_plain rfl fun K hK => ?_
  go_simp
  refine hK _ _ ?_
  clear hK
  try simp only [Act.put, List.getElem_toArray, List.getElem_cons_zero, List.getElem_cons_succ, List.setIfInBounds_toArray, List.set_cons_zero, List.set_cons_succ]
  refine wpList_plain rfl fun K hK => ?_
  go_simp
  refine hK _ _ ?_
  clear hK
  try simp only [Act.put, List.getElem_toArray, List.getElem_cons_zero, List.getElem_cons_succ, List.setIfInBounds_toArray, List.set_cons_zero, List.set_cons_succ]
  refine wpList_plain rfl fun K hK => ?_
  go_simp
  refine hK _ _ ?_
  clear hK
  try simp only [Act.put, List.getElem_toArray, List.getElem_cons_zero, List.getElem_cons_succ, List.setIfInBounds_toArray, List.set_cons_zero, List.set_cons_succ]
  refine wpList_plain rfl fun K hK => ?_
  go_simp
  refine hK _ _ ?_
  clear hK
  try simp only [Act.put, List.getElem_toArray, List.getElem_cons_zero, List.getElem_cons_succ, List.setIfInBounds_toArray, List.set_cons_zero, List.set_cons_succ]
  refine wpList_plain rfl fun K hK => ?_
  go_simp
  refine (HV.out _ g0).mono ?_
  rintro e w2 ⟨bb, rfl, hb, hG2⟩
  refine hK _ _ ?_
  clear hK K
  try simp only [Act.put, List.getElem_toArray, List.getElem_cons_zero, List.getElem_cons_succ, List.setIfInBounds_toArray, List.set_cons_zero, List.set_cons_succ]
  clear HV x0 x1 lx
  replace b0 := b0.keep hG2
  replace c0 := c0.keep hG2
  replace g0 := g0.t hG2
  clear hG2
  cases bb
  · clear hb
    go_wp2_with (go_at_call 13; refine (HWK.out _).mono ?_; rintro e w9 ⟨rfl, hG9⟩)
    go_ret
    exact ⟨rfl, g0.t hG9⟩
  exact absurd (hb rfl) id
theorem rSkyAt {r : Rl} {W : World} {F : Nat} (h : r.Fc W F) {x y t : Int} (hx : i64b x) (hy : i64b y) (ht : i64b t) : Calls Try.prog 46 #[.pointer (some ⟨F, 0, none⟩), .agg #[.int .i64 x, .int .i64 y, .int .i64 t]] W fun e w' => e = .returned (.agg ((r.S x y t).getD skAny).v) ∧ G W w' := by
  obtain ⟨m, cnt, v, wl, B, h1, h2, h3, h4⟩ := h
  exact skyAt_any m cnt F _ r.S x y t W h1 rfl h2 hx hy ht
/-- what Weather answers of a release whose fronts do not contradict each other -/
theorem rWeather {r : Rl} {w : World} (h : r.Ok w) (h0 : r.err = 0) {x y t : Nat} (hx : x < r.cols) (hy : y < r.east.length) (ht : t < r.hours) : Calls Try.prog 19 #[.agg r.v, .agg #[.int .i64 (x : Nat), .int .i64 (y : Nat)], .int .i64 (t : Nat)] w fun e w' => e = .returned (.tuple #[.agg ((r.S x y t).getD skAny).v, .int .i64 0]) ∧ G w w' := by
  have hN := h.nums
  have hc := hN.cols
  have hr := hN.rows
  have hh := hN.hours
  refine (Weather_walk r.north (r.cols : Nat) (r.lofts : Nat) r.wrong (x : Nat) (y : Nat) (t : Nat) (r.hours : Nat) 0 r.ea r.sa r.east.length r.ec r.svs.length r.sc true true r.v (fun W F => r.Fc W F ∧ r.Ok W) ((r.S x y t).getD skAny) w (rIs r) rfl rfl rfl rfl rfl rfl rfl (by omega) (fun W hW => ?_) (fun W => ?_) (fun W hW => ?_) (fun W W' F hF hG => ⟨hF.1.keep hG, hF.2.keep hG⟩) (fun W F hW hF => rSkyAt hF.1 ?_ ?_ ?_)).mono fun e w' hp => ?_
  · have := lPlace_any r.north (r.cols : Nat) (r.lofts : Nat) r.wrong (x : Nat) (y : Nat) r.ea r.east.length r.ec (.slice r.sa r.svs.length r.sc) W (by omega) (by omega)
    rwa [show isPlaceB (r.cols : Nat) r.east.length (x : Nat) (y : Nat) = true by unfold isPlaceB isInB; simp; omega] at this
  · have := lUpTo_any (t : Nat) ((r.hours : Int) - 1) W
    rwa [show isInB ((t : Nat) : Int) 0 ((r.hours : Int) - 1) = true by unfold isInB; simp; omega] at this
  · refine (rQuestion_R (h.keep hW)).mono fun e w' hq => ?_
    obtain ⟨p, e1, hG, hz⟩ := hq
    rw [h0] at e1 hz
    exact ⟨p, e1, hG, fun _ => by obtain ⟨F, e2, hf⟩ := hz rfl; exact ⟨F, e2, hf, (h.keep hW).keep hG⟩⟩
  · exact ⟨by omega, by omega⟩
  · exact ⟨by omega, by omega⟩
  · exact ⟨by omega, by omega⟩
  · obtain ⟨h1, h2⟩ := hp
    exact ⟨h1, h2⟩
/-- what surely inside says of an hour -/
theorem inside_hour {r : Rl} (hN : r.Nums) {i m k T : Nat} (hi : i < r.n) (hk : k < r.ns i) (h1 : r.safe i m = 1) (hl : m + r.st i k 2 ≤ T) (hu : T ≤ m + r.st i k 3) :
    (T / 60 < r.hours → ((r.S (r.st i k 0) (r.st i k 1) (T / 60 : Nat)).getD skAny).le r.lim) ∧ (r.hours ≤ T / 60 → skAny.le r.lim) := by
  have hb := blkR_none_iff.1 (safeN_one.1 h1) k hk
  have a1 : (m + r.st i k 2) / 60 ≤ T / 60 := Nat.div_le_div_right hl
  have a2 : T / 60 ≤ (m + r.st i k 3) / 60 := Nat.div_le_div_right hu
  refine ⟨fun h => skIn_iff.1 (hb _ (mem_hrsL a1 a2 (by omega))), fun h => ?_⟩
  obtain ⟨t, ht, hm⟩ : ∃ t, r.hours ≤ t ∧ t ∈ hrsL (m + r.st i k 2) (m + r.st i k 3) r.hours := by
    by_cases c : (m + r.st i k 2) / 60 ≤ r.hours
    · exact ⟨r.hours, Nat.le_refl _, mem_hrsL c (by omega) (Nat.le_refl _)⟩
    · exact ⟨_, by omega, hrsL_ne (by omega) _⟩
  have h2 := hb t hm
  unfold insB at h2
  have e : r.S (r.st i k 0) (r.st i k 1) t = none := by
    unfold Rl.S SD
    rw [if_neg]
    unfold doneB
    simp only [decide_eq_true_eq]
    omega
  rw [e] at h2
  exact skIn_iff.1 h2
section
variable (north cols lofts wrong bx bY sl sh lw lg lh hours dark : Int) (east : List Int) (svs : List Sv) (n k : Nat) (h f : Nat → Nat → Int) (ea sa ha fa : Option Addr) (ec sc hc fc : Nat) (w : World)
set_option maxRecDepth 100000 in
set_option maxHeartbeats 4000000 in
theorem InsideLaw_any (L : Laid east svs n k h f ea sa ha fa w) (home minute st af wi si he : Int) (haf : -9223372036854775808 ≤ af ∧ af ≤ 9223372036854775807) : Calls Try.prog 5 #[.agg #[.int .i64 north, .int .i64 cols, .slice ea east.length ec, .int .i64 lofts, .slice sa svs.length sc, .int .i64 wrong, .int .i64 bx, .int .i64 bY, .slice ha n hc, .int .i64 sl, .int .i64 sh, .slice fa k fc, .int .i64 lw, .int .i64 lg, .int .i64 lh, .int .i64 hours, .int .i64 dark], .agg #[.int .i64 home, .int .i64 minute, .int .i64 st, .int .i64 af, .int .i64 wi, .int .i64 si, .int .i64 he]] w fun e w' => e = .returned (.bool true) ∧ G w w' := by
  have hV := fun (W : World) (hW : G w W) => valid_any north cols lofts wrong bx bY sl sh lw lg lh hours dark east svs n k h f ea sa ha fa ec sc hc fc W (L.keep hW) home minute
  by_cases hp : COk north cols lofts wrong bx bY sl sh lw lg lh hours dark east svs n k h f ∧ (0 ≤ home ∧ home < n) ∧ (0 : Int) ≤ minute ∧ minute ≤ (9999 : Int)
  · obtain ⟨r, hv, hok, hrn, hrk, hre⟩ := to_Rl north cols lofts wrong bx bY sl sh lw lg lh hours dark east svs n k h f ea sa ha fa ec sc hc fc w L hp.1
    obtain ⟨i, rfl⟩ : ∃ i : Nat, home = i := ⟨home.toNat, by omega⟩
    obtain ⟨m, rfl⟩ : ∃ m : Nat, minute = m := ⟨minute.toNat, by omega⟩
    rw [← hv] at hV ⊢
    have hi : i < r.n := by omega
    have hN := hok.nums
    have hns := Rl.ns_le hN hi
    have hfar := hok.far hi
    have hsp := hN.speed
    have e2 : ∀ k, k < r.ns i → r.st i k 2 = loT r.north r.east (r.P i) r.sh k := fun k hk => by simp only [Rl.st, if_pos hk]
    have e3 : ∀ k, k < r.ns i → r.st i k 3 = hiT r.north r.east (r.P i) r.sl k := fun k hk => by simp only [Rl.st, if_pos hk]
    have e0 : ∀ k, k < r.ns i → r.st i k 0 = ((r.P i).getD k (0, 0)).1 := fun k hk => by simp only [Rl.st, if_pos hk]
    have e1 : ∀ k, k < r.ns i → r.st i k 1 = ((r.P i).getD k (0, 0)).2 := fun k hk => by simp only [Rl.st, if_pos hk]
    obtain ⟨⟨a0, a1⟩, ⟨a2, a3⟩, a4, a5⟩ := hN.lims
    refine Inside_walk r.v (r.P i) (fun j => m + loT r.north r.east (r.P i) r.sh j) (fun j => m + hiT r.north r.east (r.P i) r.sl j) (fun k t => (r.S ((r.P i).getD k (0, 0)).1 ((r.P i).getD k (0, 0)).2 t).getD skAny) r.hours i m st af wi si he r.lw r.lg r.lh r.err (if r.err = 0 then r.safe i m else 0) (if r.err = 0 then (firstR (flyB r) m (m + 1 - m)).1 else 0) (if r.err = 0 then (firstR (flyB r) m (m + 1 - m)).2 else r.err) w (rIs r) (by omega) haf (show 1 ≤ r.ns i ∧ r.ns i ≤ 20 by omega) (fun j hj => ?_) rfl rfl rfl rfl
      (fun W hW => (hV W hW).mono fun e w' hh => by obtain ⟨b, h1, _, h2⟩ := hh; exact ⟨b, h1, h2⟩) (fun W hW => rS (hok.keep hW) hi (by omega)) (fun W hW => rWay_ok (hok.keep hW) hi) (fun W hW => rPs (hok.keep hW) hi (by omega)) (fun h0 k t W hk ht hW => ?_) (fun W hW => rF (hok.keep hW) (by omega) (by omega)) ?_
    · have hq' : j < r.ns i := hj
      have b1 := hfar j (by omega)
      have b2 := hok.len hi hq'
      constructor
      · have : loT r.north r.east (r.P i) r.sh j ≤ farL r.north r.east (r.P i) j := Nat.div_le_self _ _
        show m + _ ≤ _
        omega
      · have : hiT r.north r.east (r.P i) r.sl j ≤ farL r.north r.east (r.P i) j + lenS r.north r.east (r.P i) j + r.sl - 1 := Nat.div_le_self _ _
        show m + _ ≤ _
        omega
    · have hpin := Rl.P_in hN hi hk
      exact rWeather (hok.keep hW) h0 hpin.1 hpin.2 ht
    · rcases err_cases r with h0 | h3
      · refine .inr ⟨h0, ?_⟩
        simp only [h0, if_true]
        have hc := safeN_cases (S := r.S) (lim := r.lim) (st := r.st i) (mi := m) (H := r.hours) (ns := r.ns i)
        have hs : 1 ≤ r.safe i m ∧ r.safe i m ≤ 3 := by
          show 1 ≤ safeN _ _ _ _ _ _ ∧ safeN _ _ _ _ _ _ ≤ 3
          rcases hc with e | e | e <;> rw [e] <;> omega
        have hfc := firstR_cases (fly := flyB r) (a := m) (b := m) (fm := (firstR (flyB r) m (m + 1 - m)).1) (fe := (firstR (flyB r) m (m + 1 - m)).2) rfl
        refine ⟨hs, ?_, fun hne => ?_, fun hs1 k T hk hl hu => ?_⟩
        · rcases hfc with ⟨c1, j, c2, c3, c4, _⟩ | ⟨c1, _⟩
          · exact .inl ⟨c1, by rw [c4, show j = m by omega]⟩
          · exact .inr c1
        · rcases hfc with ⟨c1, j, c2, c3, c4, c5, _⟩ | ⟨c1, _⟩
          · exfalso
            obtain rfl : j = m := by omega
            rw [fly_iff hN] at c5
            exact hne (safeN_one.2 (c5.2 i hi))
          · exact c1
        · have hk' : k < r.ns i := hk
          have hih := inside_hour hN hi hk' hs1 (T := T) (by rw [e2 k hk']; exact hl) (by rw [e3 k hk']; exact hu)
          rw [e0 k hk', e1 k hk'] at hih
          refine ⟨fun ht => ?_, fun ht => ?_⟩
          · have := hih.1 ht
            unfold Rl.lim skLim Sk.le at this
            simp only at this
            omega
          · have := hih.2 ht
            unfold Rl.lim skLim Sk.le skAny at this
            simp only at this
            omega
      · exact .inl h3
  · refine InsideOut_walk #[.int .i64 north, .int .i64 cols, .slice ea east.length ec, .int .i64 lofts, .slice sa svs.length sc, .int .i64 wrong, .int .i64 bx, .int .i64 bY, .slice ha n hc, .int .i64 sl, .int .i64 sh, .slice fa k fc, .int .i64 lw, .int .i64 lg, .int .i64 lh, .int .i64 hours, .int .i64 dark] home minute st af wi si he w isRelV (fun W hW => (hV W hW).mono fun e w' hh => ?_)
    obtain ⟨b, h1, h2, h3⟩ := hh
    exact ⟨b, h1, fun hb => hp (h2 hb), h3⟩
end
section
open Go.ChangeShapes Go.WideShapes Go.ChangeAt
variable {H : Type} {enc : TypeId × Value → H} {w : World}
theorem k51 : Try.prog.cellsOf 51 = 7 := by kernel_rfl
set_option maxRecDepth 100000 in
/-- a place and a minute that are handed in: seven numbers -/
theorem sky7_val {v : Value} {d : DataW H} {p : List MemPlace} {r : Reach} {b0 : Nat} (hv : Value.okWide Try.prog w r b0 51 v) (h : DataW.Trod enc Try.prog w 0 (fun _ => true) true 51 v d p) :
    ∃ home minute st af wi si he : Int, v = .agg #[.int .i64 home, .int .i64 minute, .int .i64 st, .int .i64 af, .int .i64 wi, .int .i64 si, .int .i64 he] ∧ (-9223372036854775808 ≤ af ∧ af ≤ 9223372036854775807) := by
  obtain ⟨cs, rfl, hsz⟩ := okWide_struct Try.underlying51 hv
  rw [k51] at hsz
  obtain ⟨l⟩ := cs
  obtain ⟨fuel, hf0⟩ := h
  obtain ⟨xs, n, _, _, hl, hlen, hf⟩ := DataW.trod_struct Try.underlying51 hf0
  match l, hsz, xs, hlen with
  | [c0, c1, c2, c3, c4, c5, c6], _, [y0, y1, y2, y3, y4, y5, y6], _ =>
    have h0 := hf 0 _ rfl
    have h1 := hf 1 _ rfl
    have h2 := hf 2 _ rfl
    have h3 := hf 3 _ rfl
    have h4 := hf 4 _ rfl
    have h5 := hf 5 _ rfl
    have h6 := hf 6 _ rfl
    simp [k3, Value.cells] at h0 h1 h2 h3 h4 h5 h6
    obtain ⟨a0, e0, _, _⟩ := DataW.trod_int Try.underlying3 h0
    obtain ⟨a1, e1, _, _⟩ := DataW.trod_int Try.underlying3 h1
    obtain ⟨a2, e2, _, _⟩ := DataW.trod_int Try.underlying3 h2
    obtain ⟨a3, e3, _, w3⟩ := DataW.trod_int Try.underlying3 h3
    obtain ⟨a4, e4, _, _⟩ := DataW.trod_int Try.underlying3 h4
    obtain ⟨a5, e5, _, _⟩ := DataW.trod_int Try.underlying3 h5
    obtain ⟨a6, e6, _, _⟩ := DataW.trod_int Try.underlying3 h6
    simp at e0 e1 e2 e3 e4 e5 e6
    exact ⟨a0, a1, a2, a3, a4, a5, a6, by simp [e0, e1, e2, e3, e4, e5, e6], wf_bd w3⟩
end
end Go.Proofs.Ytcekdljjmfkacaa
