import Derived.Test.YtpjfdfddcnocpaaNf
import Derived.Deep.Cut
set_option linter.unusedSimpArgs false
set_option linter.unusedVariables false
namespace Go.Proofs.Ytpjfdfddcnocpaa
open Go.RowKit
attribute [local go_sem] Oper.semAt_some

theorem inside_all (north wrong1 wrong2 f r rc px py qx qy : Int) (cols lofts a b : Nat) (east : List Int) (svs1 svs2 : List Sv) (ea1 sa1 ea2 sa2 : Option Addr) (ec1 sc1 ec2 sc2 : Nat) (w : World)
    (he1 : IntsAt w ea1 east) (hs1 : SvsAt w sa1 svs1) (he2 : IntsAt w ea2 east) (hs2 : SvsAt w sa2 svs2) (hk1 : checkE north cols east lofts svs1 wrong1 = 0) (hk2 : checkE north cols east lofts svs2 wrong2 = 0)
    (hco : ∀ l, ∀ p ∈ allP cols east.length, cost north east svs2 l p ≤ cost north east svs1 l p) (hww : wrong1 ≤ wrong2) (ha : a < lofts) (hb : b < lofts) :
    InsideGoal north wrong1 wrong2 f r rc px py qx qy cols lofts a b east svs1 svs2 ea1 sa1 ea2 sa2 ec1 sc1 ec2 sc2 w := by
  have vb := vm_bounds (checkE_ok hk1)
  by_cases hw1 : wrong1 < fewSum north cols east svs1 lofts
  · refine inside_none north wrong1 wrong2 f r rc px py qx qy cols lofts a b east svs1 svs2 ea1 sa1 ea2 sa2 ec1 sc1 ec2 sc2 w he1 hs1 he2 hs2 hk1 hk2 hco hww ha hw1 ?_
    by_cases hw2 : wrong2 < fewSum north cols east svs2 lofts
    · exact ⟨0, 0, 0, 3, none, .inr rfl, fun W hW => (Places_none north wrong2 cols lofts a east svs2 ea2 sa2 ec2 sc2 W (he2.below hW) (hs2.below hW) hk2 ha hw2).mono fun e w' ⟨h1, h2⟩ => ⟨⟨_, _, _, h1⟩, h2⟩⟩
    · refine ⟨0, 0, 0, 0, none, .inl rfl, fun W hW => (Places_ok north wrong2 cols lofts a east svs2 ea2 sa2 ec2 sc2 W (he2.below hW) (hs2.below hW) hk2 ha hw2 (Nat.le_trans (Nat.le_trans truths_one_len (spotsOf_len north cols east svs2 a (by omega) (by omega))) (by omega))).mono fun e w' ⟨v, h1, h2, h3⟩ => ?_⟩
      obtain ⟨g, cap, e2, _⟩ := pts_of (truths_ne (ls := [a]) hk2 hw2) h2
      subst e2
      exact ⟨⟨_, _, _, h1⟩, h3⟩
  · exact inside_ok north wrong1 wrong2 f r rc px py qx qy cols lofts a b east svs1 svs2 ea1 sa1 ea2 sa2 ec1 sc1 ec2 sc2 w he1 hs1 he2 hs2 hk1 hk2 hco hww ha hb hw1
theorem cost_more (north : Int) (east : List Int) (svs : List Sv) (s : Sv) (l : Nat) (p : Nat × Nat) : cost north east svs l p ≤ cost north east (svs ++ [s]) l p := by
  unfold cost wrongN
  rw [List.filter_append, List.length_append]
  omega
theorem checkE_wide {north cols lofts wrong wrong' : Int} {east : List Int} {svs : List Sv} (h : checkE north cols east lofts svs wrong = 0) (hw : 0 ≤ wrong' ∧ wrong' ≤ 3) : checkE north cols east lofts svs wrong' = 0 := by
  obtain ⟨hv, hl2, hso⟩ := checkE_zero h
  have hv' : validMapB north cols east lofts wrong' = true := by
    unfold validMapB isInB at *
    simp only [Bool.and_eq_true, decide_eq_true_eq] at hv ⊢
    obtain ⟨h1, h2, h3, h4, h5, h6⟩ := hv
    exact ⟨h1, h2, h3, h4, h5, hw⟩
  unfold checkE
  rw [if_neg (by rw [hv']; simp), if_neg (by omega), if_pos hso]
theorem validB_ok {north cols lofts wrong : Int} {east : List Int} {svs : List Sv} (h : validB north cols east lofts svs wrong = true) : checkE north cols east lofts svs wrong = 0 := by
  unfold validB at h
  simp at h
  exact h.2
theorem loft_nat {a lofts : Int} (h : (decide (0 ≤ a) && decide (a < lofts)) = true) : ∃ n : Nat, a = n ∧ (n : Int) < lofts := by
  simp at h
  obtain ⟨n, rfl⟩ := Int.eq_ofNat_of_zero_le h.1
  exact ⟨n, rfl, h.2⟩
section
variable (north wrong f r rc px py qx qy : Int) (cols lofts a b : Nat) (s : Sv) (east : List Int) (svs : List Sv) (ea sa : Option Addr) (ec sc : Nat) (w : World)
set_option maxRecDepth 100000 in
set_option maxHeartbeats 8000000 in
theorem more_main (he : IntsAt w ea east) (hs : SvsAt w sa svs) (hn : sa = none → sc = 0) (hl : east.length ≤ 9223372036854775807) (hl2 : svs.length ≤ 9223372036854775807) (hv : validB north cols east lofts svs wrong = true) (hk : checkE north cols east lofts svs wrong = 0) (h : ¬ 16 ≤ svs.length) (ha : a < lofts) (hb : b < lofts) : MoreGoal north cols lofts wrong f a b r rc px py qx qy s east svs ea sa ec sc w := by
  obtain ⟨g0, b0, b1, b2⟩ := w3k_spec w #[.int .i64 north, .int .i64 cols, .slice ea east.length ec, .int .i64 lofts, .slice sa svs.length sc, .int .i64 wrong] #[.int .i64 s.loft, .int .i64 s.kind, .int .i64 s.xl, .int .i64 s.xh, .int .i64 s.yl, .int .i64 s.yh, .int .i64 s.ax, .int .i64 s.ay, .int .i64 s.dl, .int .i64 s.dh] #[.int .i64 f, .int .i64 a, .int .i64 b, .int .i64 r, .int .i64 rc, .int .i64 px, .int .i64 py, .int .i64 qx, .int .i64 qy] 25 56 38
  have h' : ¬ (16 : Int) ≤ svs.length := by omega
  have hvb := vm_bounds (checkE_ok hk)
  have q1 : (decide (0 ≤ (a : Int)) && decide ((a : Int) < lofts)) = true := by simp; omega
  have q2 : (decide (0 ≤ (b : Int)) && decide ((b : Int) < lofts)) = true := by simp; omega
  have hV := fun (W : World) (hW : G w W) => valid_any north cols lofts wrong east svs ea sa ec sc W (he.below hW) (hs.below hW) hl hl2
  rw [hv] at hV
  have HV := Lib.hid hV
  have HCp := fun (W : World) (hW : G w W) => Copy_full north cols lofts wrong east svs ea sa ec sc W (he.below hW) (hs.below hW) (by omega) (by omega) (by omega) hn
  have HCp := Lib.hid HCp
  have HK := Lib.hid hk
  have hwb : 0 ≤ wrong ∧ wrong ≤ 3 := by omega
  clear hV hvb hk hv
  have x1w : IntKind.i64.wrap (wrong + 1) = wrong + 1 := IntWalk.i64_in _ (by omega)
  unfold MoreGoal
  go_enter Try.func6, Try.ntmps6
  go_wp2_with (first | (go_at_call 19; refine (HV.out _ g0).mono ?_; rintro e w1 ⟨rfl, hG1⟩; replace b0 := b0.keep hG1; replace b1 := b1.keep hG1; replace b2 := b2.keep hG1; replace g0 := g0.t hG1; clear hG1; have m0 := b0.cell 0; have m1 := b0.cell 1; have m2 := b0.cell 2; have m3 := b0.cell 3; have m4 := b0.cell 4; have m5 := b0.cell 5; have a1 := b2.cell 1; have a2 := b2.cell 2; have lM := b0.lt; have lS := b1.lt; have lA := b2.lt) | (go_at_call 21; refine (lawLoft_any _ _ _ _ _ _ _ _).mono ?_; rintro e w1 ⟨rfl, hG1⟩; clear m0 m1 m2 m3 m4 m5 a1 a2 lM lS lA; replace b0 := b0.keep hG1; replace b1 := b1.keep hG1; replace b2 := b2.keep hG1; replace g0 := g0.t hG1; clear hG1; have m0 := b0.cell 0; have m1 := b0.cell 1; have m2 := b0.cell 2; have m3 := b0.cell 3; have m4 := b0.cell 4; have m5 := b0.cell 5; have a1 := b2.cell 1; have a2 := b2.cell 2; have lM := b0.lt; have lS := b1.lt; have lA := b2.lt))

  clear m0 m1 m2 m3 m4 m5 a1 a2 lM lS lA
  refine wp_region_Y (S := fun W' => Blk W' w.heap.size 25 #[.int .i64 north, .int .i64 cols, .slice ea east.length ec, .int .i64 lofts, .slice sa svs.length sc, .int .i64 wrong]) 7 8 rfl (by kernel_rfl) (b0.keep (G.rf _).d) (fun hS => ?_)
  have f0 : ∀ W', Blk W' w.heap.size 25 #[.int .i64 north, .int .i64 cols, .slice ea east.length ec, .int .i64 lofts, .slice sa svs.length sc, .int .i64 wrong] → W'.cell? ⟨w.heap.size, 0, none⟩ = some (.int .i64 north) := fun W' h => h.cell 0
  have f1 : ∀ W', Blk W' w.heap.size 25 #[.int .i64 north, .int .i64 cols, .slice ea east.length ec, .int .i64 lofts, .slice sa svs.length sc, .int .i64 wrong] → W'.cell? ⟨w.heap.size, 1, none⟩ = some (.int .i64 cols) := fun W' h => h.cell 1
  have f2 : ∀ W', Blk W' w.heap.size 25 #[.int .i64 north, .int .i64 cols, .slice ea east.length ec, .int .i64 lofts, .slice sa svs.length sc, .int .i64 wrong] → W'.cell? ⟨w.heap.size, 2, none⟩ = some (.slice ea east.length ec) := fun W' h => h.cell 2
  have f3 : ∀ W', Blk W' w.heap.size 25 #[.int .i64 north, .int .i64 cols, .slice ea east.length ec, .int .i64 lofts, .slice sa svs.length sc, .int .i64 wrong] → W'.cell? ⟨w.heap.size, 3, none⟩ = some (.int .i64 lofts) := fun W' h => h.cell 3
  have f4 : ∀ W', Blk W' w.heap.size 25 #[.int .i64 north, .int .i64 cols, .slice ea east.length ec, .int .i64 lofts, .slice sa svs.length sc, .int .i64 wrong] → W'.cell? ⟨w.heap.size, 4, none⟩ = some (.slice sa svs.length sc) := fun W' h => h.cell 4
  have f5 : ∀ W', Blk W' w.heap.size 25 #[.int .i64 north, .int .i64 cols, .slice ea east.length ec, .int .i64 lofts, .slice sa svs.length sc, .int .i64 wrong] → W'.cell? ⟨w.heap.size, 5, none⟩ = some (.int .i64 wrong) := fun W' h => h.cell 5
  refine wpAnyY_take (i := 0) (v := ?_) rfl (by kernel_rfl) (by kernel_rfl) (by kernel_rfl) (by kernel_rfl) (fun _ _ _ h => h) (Or.inl ⟨by kernel_rfl, ?_⟩) (by assumption) ?_
  rotate_left
  · intro w' hSw; go_simp; with_reducible rfl
  try simp only [Act.put, List.setIfInBounds_toArray, List.set_cons_zero, List.set_cons_succ]
  refine wpAnyY_take (i := 2) (v := ?_) rfl (by kernel_rfl) (by kernel_rfl) (by kernel_rfl) (by kernel_rfl) (fun _ _ _ h => h) (Or.inl ⟨by kernel_rfl, ?_⟩) (by assumption) ?_
  rotate_left
  · intro w' hSw; go_simp; with_reducible rfl
  try simp only [Act.put, List.setIfInBounds_toArray, List.set_cons_zero, List.set_cons_succ]

  clear f0 f1 f2 f3 f4 f5
  refine reg3T (w0 := w1.drew) (fun W h => (b0.keep (G.rf _).d).keep h) (fun W h => HCp.out W ((g0.t (G.rf _).d).t h)) rfl (by go_simp) (by go_simp) rfl (fun n7 n8 gE capE curE gS capS curS gE' capE' curE' gS' capS' curS' W' r1 hSS r2 r3 r4 r5 r6 r7 r8 r9 t1 t2 t3 t4 t5 t6 t7 => ?_) (G.rf _)
  simp only [NoP, T4, List.setIfInBounds_toArray, List.set_cons_zero, List.set_cons_succ]
  have hl0 : w.heap.size + 1 + 1 < w1.heap.size := b2.lt
  have hd : (w1.drew).heap.size = w1.heap.size := rfl
  rw [hd] at r2 r3 r7 t1 t3 t6
  clear hd hS
  replace b0 := (b0.keep (G.rf _).d).keep r4
  replace b1 := (b1.keep (G.rf _).d).keep r4
  replace b2 := (b2.keep (G.rf _).d).keep r4
  replace g0 := (g0.t (G.rf _).d).t r4
  clear r4
  have k4 := r5.cell 4
  have z4 := r5.frozen 4
  have l7 := r5.lt
  have l8 := r6.lt
  have x0 := b1.cell 0
  have x1 := b1.cell 1
  have x2 := b1.cell 2
  have x3 := b1.cell 3
  have x4 := b1.cell 4
  have x5 := b1.cell 5
  have x6 := b1.cell 6
  have x7 := b1.cell 7
  have x8 := b1.cell 8
  have x9 := b1.cell 9
  have m5 := b0.cell 5
  have lM := b0.lt
  have lS := b1.lt
  have hrow := t2.row (base := w1.heap.size) t1 svs.length (Nat.le_refl _)
  rw [List.take_length] at hrow
  obtain ⟨i6, hi6, hy0, hy1, hy2⟩ := info_parts info56
  have l78 := g0.size
  go_upto_region 6 with (at_builtin; refine wpList_append_own _ rfl (.tmp 38) (.tmp 40) 23 rfl w1.heap.size 56 i6 _ 10 80 Try.underlying23 hi6 hy0 hy1 hy2 rfl (by omega) (.slice (some ⟨gS, 0, none⟩) svs.length capS) svs.length (svCells svs) (by go_simp) (hrow.alloc _) ⟨W'.heap.size, 0, none⟩ 1 1 (svC s) (by go_simp) rfl (World.news_of_block (cs := #[.int .i64 s.loft, .int .i64 s.kind, .int .i64 s.xl, .int .i64 s.xh, .int .i64 s.yl, .int .i64 s.yh, .int .i64 s.ax, .int .i64 s.ay, .int .i64 s.dl, .int .i64 s.dh]) (t := 56) (fr := (0, 0)) (heap_alloc_new W' _)) (by simp [svC, Value.oneCell']) (by unfold maxLen; omega) (by omega) (by simp; omega) ?_; intro v9 w9 hown9 hg9' _; have hg9 : (W'.alloc (.cells #[.int .i64 s.loft, .int .i64 s.kind, .int .i64 s.xl, .int .i64 s.xh, .int .i64 s.yl, .int .i64 s.yh, .int .i64 s.ax, .int .i64 s.ay, .int .i64 s.dl, .int .i64 s.dh] 56)).grownBy w9 (some gS) := hg9'; clear hg9' k4 z4 l7 l8 x0 x1 x2 x3 x4 x5 x6 x7 x8 x9 m5 lM lS; replace b0 := (b0.alloc (.cells #[.int .i64 s.loft, .int .i64 s.kind, .int .i64 s.xl, .int .i64 s.xh, .int .i64 s.yl, .int .i64 s.yh, .int .i64 s.ax, .int .i64 s.ay, .int .i64 s.dl, .int .i64 s.dh] 56)).grown hg9 (fun e => b0.ne t2.1 (by decide) (by injection e)); replace b1 := (b1.alloc (.cells #[.int .i64 s.loft, .int .i64 s.kind, .int .i64 s.xl, .int .i64 s.xh, .int .i64 s.yl, .int .i64 s.yh, .int .i64 s.ax, .int .i64 s.ay, .int .i64 s.dl, .int .i64 s.dh] 56)).grown hg9 (fun e => by injection e with e; have := t2.1.lt; omega); replace b2 := (b2.alloc (.cells #[.int .i64 s.loft, .int .i64 s.kind, .int .i64 s.xl, .int .i64 s.xh, .int .i64 s.yl, .int .i64 s.yh, .int .i64 s.ax, .int .i64 s.ay, .int .i64 s.dl, .int .i64 s.dh] 56)).grown hg9 (fun e => b2.ne t2.1 (by decide) (by injection e)); replace r6 := (r6.alloc (.cells #[.int .i64 s.loft, .int .i64 s.kind, .int .i64 s.xl, .int .i64 s.xh, .int .i64 s.yl, .int .i64 s.yh, .int .i64 s.ax, .int .i64 s.ay, .int .i64 s.dl, .int .i64 s.dh] 56)).grown hg9 (fun e => r6.ne t2.1 (by decide) (by injection e)); replace r8 := (r8.alloc (.cells #[.int .i64 s.loft, .int .i64 s.kind, .int .i64 s.xl, .int .i64 s.xh, .int .i64 s.yl, .int .i64 s.yh, .int .i64 s.ax, .int .i64 s.ay, .int .i64 s.dl, .int .i64 s.dh] 56)).grown hg9 (fun e => r8.ne t2.1 (by decide) (by injection e)); replace t4 := (t4.alloc (.cells #[.int .i64 s.loft, .int .i64 s.kind, .int .i64 s.xl, .int .i64 s.xh, .int .i64 s.yl, .int .i64 s.yh, .int .i64 s.ax, .int .i64 s.ay, .int .i64 s.dl, .int .i64 s.dh] 56)).grown hg9 (fun e => t4.ne t2.1 (by decide) (by injection e)); have r59 := (r5.alloc (.cells #[.int .i64 s.loft, .int .i64 s.kind, .int .i64 s.xl, .int .i64 s.xh, .int .i64 s.yl, .int .i64 s.yh, .int .i64 s.ax, .int .i64 s.ay, .int .i64 s.dl, .int .i64 s.dh] 56)).grown hg9 (fun e => r5.ne t2.1 (by decide) (by injection e)); have t7r := t7.2; replace t7 := (t7.1.alloc (.cells #[.int .i64 s.loft, .int .i64 s.kind, .int .i64 s.xl, .int .i64 s.xh, .int .i64 s.yl, .int .i64 s.yh, .int .i64 s.ax, .int .i64 s.ay, .int .i64 s.dl, .int .i64 s.dh] 56)).grown hg9 (fun e => hSS (by injection e with e; exact e.symm)); replace g0 : G w w9 := ((G.fr (R := fun _ => False) (g0.a _)).grown hg9 (fun g e => .inr (by injection e with e; omega))).toG (fun _ _ h => h); have k4 := r59.cell 4; have z4 := r59.frozen 4; have l7 := r59.lt; have m5 := b0.cell 5; have lM := b0.lt; have d5 := r6.cell 5; have z5 := r6.frozen 5; have l8 := r6.lt; obtain ⟨sM, cM, rfl, hsM0, _⟩ := svs_of_own (l := svs ++ [s]) (by rw [svCells_app]; simpa [svCells] using hown9) (by simp); go_frame)
  have hlen1 : (svs ++ [s]).length = svs.length + 1 := by simp
  have hownM : w9.ownsRow w1.heap.size 56 10 (.slice sM (svs.length + 1) cM) (svs.length + 1) (svCells (svs ++ [s])) := by
    rw [svCells_app]
    rw [hlen1] at hown9
    simpa [svCells] using hown9
  have hownF := (hownM.kept (grownBy_set w9 ⟨n7, 4, none⟩ (.slice sM (svs.length + 1) cM)) (.inr (own_ne hownM r59 (by decide)).symm)).kept (grownBy_set _ ⟨n8, 5, none⟩ (.int .i64 (min 3 (wrong + 1)))) (.inr (own_ne hownM r6 (by decide)).symm)
  have hsF := svs_at_own hownF (by rw [hlen1])
  have BM : Blk ((w9.setCell ⟨n7, 4, none⟩ (.slice sM (svs.length + 1) cM)).setCell ⟨n8, 5, none⟩ (.int .i64 (min 3 (wrong + 1)))) n7 25 #[.int .i64 north, .int .i64 cols, .slice (some ⟨gE, 0, none⟩) east.length capE, .int .i64 lofts, .slice sM (svs.length + 1) cM, .int .i64 wrong] := (r59.set_ 4 _).far (p := ⟨n8, 5, none⟩) r1 _
  have BW : Blk ((w9.setCell ⟨n7, 4, none⟩ (.slice sM (svs.length + 1) cM)).setCell ⟨n8, 5, none⟩ (.int .i64 (min 3 (wrong + 1)))) n8 25 #[.int .i64 north, .int .i64 cols, .slice (some ⟨gE', 0, none⟩) east.length capE', .int .i64 lofts, .slice (some ⟨gS', 0, none⟩) svs.length capS', .int .i64 (min 3 (wrong + 1))] := (r6.far (p := ⟨n7, 4, none⟩) (fun e => r1 e.symm) _).set_ 5 _
  have B0 := (b0.far (p := ⟨n7, 4, none⟩) (by simp; omega) (.slice sM (svs.length + 1) cM)).far (p := ⟨n8, 5, none⟩) (by simp; omega) (.int .i64 (min 3 (wrong + 1)))
  have B1 := (b1.far (p := ⟨n7, 4, none⟩) (by simp; omega) (.slice sM (svs.length + 1) cM)).far (p := ⟨n8, 5, none⟩) (by simp; omega) (.int .i64 (min 3 (wrong + 1)))
  have B2 := (b2.far (p := ⟨n7, 4, none⟩) (by simp; omega) (.slice sM (svs.length + 1) cM)).far (p := ⟨n8, 5, none⟩) (by simp; omega) (.int .i64 (min 3 (wrong + 1)))
  have E1 := (r8.far (p := ⟨n7, 4, none⟩) (r8.ne r59 (by decide)) (.slice sM (svs.length + 1) cM)).far (p := ⟨n8, 5, none⟩) (r8.ne r6 (by decide)) (.int .i64 (min 3 (wrong + 1)))
  have E2 := (t4.far (p := ⟨n7, 4, none⟩) (t4.ne r59 (by decide)) (.slice sM (svs.length + 1) cM)).far (p := ⟨n8, 5, none⟩) (t4.ne r6 (by decide)) (.int .i64 (min 3 (wrong + 1)))
  have S2 := (t7.far (p := ⟨n7, 4, none⟩) (t7.ne r59 (by decide)) (.slice sM (svs.length + 1) cM)).far (p := ⟨n8, 5, none⟩) (t7.ne r6 (by decide)) (.int .i64 (min 3 (wrong + 1)))
  have gF : G w ((w9.setCell ⟨n7, 4, none⟩ (.slice sM (svs.length + 1) cM)).setCell ⟨n8, 5, none⟩ (.int .i64 (min 3 (wrong + 1)))) := (g0.s (by simp; omega) _).s (by simp; omega) _
  have S2' := OwnSv.at (cap := capS') (cur := curS') ⟨S2, t7r⟩
  have hE1 := east_at E1 r9
  have hE2 := east_at E2 t5
  rw [hlen1] at *
  generalize (w9.setCell ⟨n7, 4, none⟩ (.slice sM (svs.length + 1) cM)).setCell ⟨n8, 5, none⟩ (.int .i64 (min 3 (wrong + 1))) = WF at *
  have hlen2 : (svs ++ [s]).length = svs.length + 1 := by simp
  have gx := G.rf WF
  have hV2 := fun (W : World) (hW : G WF W) => valid_any north cols lofts wrong east (svs ++ [s]) (some ⟨gE, 0, none⟩) sM capE cM W (hE1.below hW) (hsF.below hW) hl (by rw [hlen2]; omega)
  simp only [hlen2] at hV2
  cases hv2 : validB north cols east lofts (svs ++ [s]) wrong
  · rw [hv2] at hV2
    have HV2 := Lib.hid hV2
    clear hV2
    have m0 := B0.cell 0; have m1 := B0.cell 1; have m2 := B0.cell 2; have m3 := B0.cell 3; have m4 := B0.cell 4; have m5 := B0.cell 5; have a0 := B2.cell 0; have a1 := B2.cell 1; have a2 := B2.cell 2; have a3 := B2.cell 3; have a4 := B2.cell 4; have a5 := B2.cell 5; have a6 := B2.cell 6; have a7 := B2.cell 7; have a8 := B2.cell 8; have p0 := BM.cell 0; have p1 := BM.cell 1; have p2 := BM.cell 2; have p3 := BM.cell 3; have p4 := BM.cell 4; have p5 := BM.cell 5; have u0 := BW.cell 0; have u1 := BW.cell 1; have u2 := BW.cell 2; have u3 := BW.cell 3; have u4 := BW.cell 4; have u5 := BW.cell 5; have lM := B0.lt; have lA := B2.lt; have lP := BM.lt; have lU := BW.lt
    go_wp2_with (first | (go_at_call 19; refine (HV2.out _ gx).mono ?_; rintro e w2 ⟨rfl, hG1⟩; clear m0 m1 m2 m3 m4 m5 a0 a1 a2 a3 a4 a5 a6 a7 a8 p0 p1 p2 p3 p4 p5 u0 u1 u2 u3 u4 u5 lM lA lP lU; replace B0 := B0.keep hG1; replace B1 := B1.keep hG1; replace B2 := B2.keep hG1; replace BM := BM.keep hG1; replace BW := BW.keep hG1; replace gF := gF.t hG1; replace gx := gx.t hG1; clear hG1; have m0 := B0.cell 0; have m1 := B0.cell 1; have m2 := B0.cell 2; have m3 := B0.cell 3; have m4 := B0.cell 4; have m5 := B0.cell 5; have a0 := B2.cell 0; have a1 := B2.cell 1; have a2 := B2.cell 2; have a3 := B2.cell 3; have a4 := B2.cell 4; have a5 := B2.cell 5; have a6 := B2.cell 6; have a7 := B2.cell 7; have a8 := B2.cell 8; have p0 := BM.cell 0; have p1 := BM.cell 1; have p2 := BM.cell 2; have p3 := BM.cell 3; have p4 := BM.cell 4; have p5 := BM.cell 5; have u0 := BW.cell 0; have u1 := BW.cell 1; have u2 := BW.cell 2; have u3 := BW.cell 3; have u4 := BW.cell 4; have u5 := BW.cell 5; have lM := B0.lt; have lA := B2.lt; have lP := BM.lt; have lU := BW.lt) | (go_at_call 16; refine (works_any _).mono ?_; rintro e w2 ⟨rfl, hG2⟩))
    go_ret
    exact ⟨rfl, gF.t hG2⟩
  · rw [hv2] at hV2
    have HV2 := Lib.hid hV2
    clear hV2
    have hk1 := HK.out
    have hk2 := validB_ok hv2
    have hI1 := fun (W : World) (hW : G WF W) => inside_all north wrong wrong f r rc px py qx qy cols lofts a b east (svs ++ [s]) svs (some ⟨gE, 0, none⟩) sM ea sa capE cM ec sc W (hE1.below hW) (hsF.below hW) (he.below (gF.t hW)) (hs.below (gF.t hW)) hk2 hk1 (fun l p _ => cost_more north east svs s l p) (Int.le_refl _) ha hb
    have hI2 := fun (W : World) (hW : G WF W) => inside_all north wrong (min 3 (wrong + 1)) f r rc px py qx qy cols lofts a b east svs svs ea sa (some ⟨gE', 0, none⟩) (some ⟨gS', 0, none⟩) ec sc capE' capS' W (he.below (gF.t hW)) (hs.below (gF.t hW)) (hE2.below hW) (S2'.below hW) hk1 (checkE_wide hk1 (by omega)) (fun l p _ => Nat.le_refl _) (by omega) ha hb
    simp only [InsideGoal, hlen2] at hI1 hI2
    have HI1 := Lib.hid hI1
    have HI2 := Lib.hid hI2
    clear hI1 hI2
    have m0 := B0.cell 0; have m1 := B0.cell 1; have m2 := B0.cell 2; have m3 := B0.cell 3; have m4 := B0.cell 4; have m5 := B0.cell 5; have a0 := B2.cell 0; have a1 := B2.cell 1; have a2 := B2.cell 2; have a3 := B2.cell 3; have a4 := B2.cell 4; have a5 := B2.cell 5; have a6 := B2.cell 6; have a7 := B2.cell 7; have a8 := B2.cell 8; have p0 := BM.cell 0; have p1 := BM.cell 1; have p2 := BM.cell 2; have p3 := BM.cell 3; have p4 := BM.cell 4; have p5 := BM.cell 5; have u0 := BW.cell 0; have u1 := BW.cell 1; have u2 := BW.cell 2; have u3 := BW.cell 3; have u4 := BW.cell 4; have u5 := BW.cell 5; have lM := B0.lt; have lA := B2.lt; have lP := BM.lt; have lU := BW.lt
    go_wp2_with (first | (go_at_call 19; refine (HV2.out _ gx).mono ?_; rintro e w2 ⟨rfl, hG1⟩; clear m0 m1 m2 m3 m4 m5 a0 a1 a2 a3 a4 a5 a6 a7 a8 p0 p1 p2 p3 p4 p5 u0 u1 u2 u3 u4 u5 lM lA lP lU; replace B0 := B0.keep hG1; replace B1 := B1.keep hG1; replace B2 := B2.keep hG1; replace BM := BM.keep hG1; replace BW := BW.keep hG1; replace gF := gF.t hG1; replace gx := gx.t hG1; clear hG1; have m0 := B0.cell 0; have m1 := B0.cell 1; have m2 := B0.cell 2; have m3 := B0.cell 3; have m4 := B0.cell 4; have m5 := B0.cell 5; have a0 := B2.cell 0; have a1 := B2.cell 1; have a2 := B2.cell 2; have a3 := B2.cell 3; have a4 := B2.cell 4; have a5 := B2.cell 5; have a6 := B2.cell 6; have a7 := B2.cell 7; have a8 := B2.cell 8; have p0 := BM.cell 0; have p1 := BM.cell 1; have p2 := BM.cell 2; have p3 := BM.cell 3; have p4 := BM.cell 4; have p5 := BM.cell 5; have u0 := BW.cell 0; have u1 := BW.cell 1; have u2 := BW.cell 2; have u3 := BW.cell 3; have u4 := BW.cell 4; have u5 := BW.cell 5; have lM := B0.lt; have lA := B2.lt; have lP := BM.lt; have lU := BW.lt) | (go_at_call 29; refine (HI1.out _ gx).mono ?_; clear HI1; rintro e w2 ⟨rfl, hG1⟩; clear m0 m1 m2 m3 m4 m5 a0 a1 a2 a3 a4 a5 a6 a7 a8 p0 p1 p2 p3 p4 p5 u0 u1 u2 u3 u4 u5 lM lA lP lU; replace B0 := B0.keep hG1; replace B1 := B1.keep hG1; replace B2 := B2.keep hG1; replace BM := BM.keep hG1; replace BW := BW.keep hG1; replace gF := gF.t hG1; replace gx := gx.t hG1; clear hG1; have m0 := B0.cell 0; have m1 := B0.cell 1; have m2 := B0.cell 2; have m3 := B0.cell 3; have m4 := B0.cell 4; have m5 := B0.cell 5; have a0 := B2.cell 0; have a1 := B2.cell 1; have a2 := B2.cell 2; have a3 := B2.cell 3; have a4 := B2.cell 4; have a5 := B2.cell 5; have a6 := B2.cell 6; have a7 := B2.cell 7; have a8 := B2.cell 8; have p0 := BM.cell 0; have p1 := BM.cell 1; have p2 := BM.cell 2; have p3 := BM.cell 3; have p4 := BM.cell 4; have p5 := BM.cell 5; have u0 := BW.cell 0; have u1 := BW.cell 1; have u2 := BW.cell 2; have u3 := BW.cell 3; have u4 := BW.cell 4; have u5 := BW.cell 5; have lM := B0.lt; have lA := B2.lt; have lP := BM.lt; have lU := BW.lt) | (go_at_call 29; refine (HI2.out _ gx).mono ?_; rintro e w2 ⟨rfl, hG1⟩; clear m0 m1 m2 m3 m4 m5 a0 a1 a2 a3 a4 a5 a6 a7 a8 p0 p1 p2 p3 p4 p5 u0 u1 u2 u3 u4 u5 lM lA lP lU; replace B0 := B0.keep hG1; replace B1 := B1.keep hG1; replace B2 := B2.keep hG1; replace BM := BM.keep hG1; replace BW := BW.keep hG1; replace gF := gF.t hG1; replace gx := gx.t hG1; clear hG1; have m0 := B0.cell 0; have m1 := B0.cell 1; have m2 := B0.cell 2; have m3 := B0.cell 3; have m4 := B0.cell 4; have m5 := B0.cell 5; have a0 := B2.cell 0; have a1 := B2.cell 1; have a2 := B2.cell 2; have a3 := B2.cell 3; have a4 := B2.cell 4; have a5 := B2.cell 5; have a6 := B2.cell 6; have a7 := B2.cell 7; have a8 := B2.cell 8; have p0 := BM.cell 0; have p1 := BM.cell 1; have p2 := BM.cell 2; have p3 := BM.cell 3; have p4 := BM.cell 4; have p5 := BM.cell 5; have u0 := BW.cell 0; have u1 := BW.cell 1; have u2 := BW.cell 2; have u3 := BW.cell 3; have u4 := BW.cell 4; have u5 := BW.cell 5; have lM := B0.lt; have lA := B2.lt; have lP := BM.lt; have lU := BW.lt) | (go_at_call 16; refine (works_any _).mono ?_; rintro e w2 ⟨rfl, hG2⟩))
    go_ret
    exact ⟨rfl, gF.t hG2⟩
end
end Go.Proofs.Ytpjfdfddcnocpaa
