import Derived.Test.YtdneehbhncekaaaLy
import Derived.Test.YtdneehbhncekaaaLza
import Derived.Test.YtdneehbhncekaaaLp
set_option linter.unusedSimpArgs false
set_option linter.unusedVariables false
namespace Go.Proofs.Ytdneehbhncekaaa
open Go.RowKit
attribute [local go_sem] Oper.semAt_some
section
variable (north wrong : Int) (cn ln an bn mn sl sh px py qx qy : Nat) (east : List Int) (svs : List Sv) (ea sa : Option Addr) (ec sc : Nat) (w : World)
set_option maxRecDepth 100000 in
set_option maxHeartbeats 16000000 in
theorem st_on6 (he : IntsAt w ea east) (hs : SvsAt w sa svs) (hl : east.length ≤ 9223372036854775807) (hl2 : svs.length ≤ 9223372036854775807) (t1 : farB north cn east ln svs wrong = false) (t2 : checkE north cn east ln svs wrong = 0) (ha : an < ln) (hb : bn < ln) (hm : mn ≤ 9999) (hsl : 1 ≤ sl) (hsh : sl ≤ sh) (hsh2 : sh ≤ 3000000) (hw : ¬ wrong < fewSum north cn east svs ln) (f g : At) (hLA : truthsOf (spotsOf north cn east svs) [an] (wrong - fewSum north cn east svs ln) = [f]) (hLB : truthsOf (spotsOf north cn east svs) [bn] (wrong - fewSum north cn east svs ln) = [g]) (hf : f an = (px, py)) (hg : g bn = (qx, qy)) (hx : px = qx) : StGoal north cn ln wrong an bn mn sl sh east svs ea sa ec sc w := by
  obtain ⟨g0, b0, b1⟩ := w2_spec w #[.int .i64 north, .int .i64 (cn : Nat), .slice ea east.length ec, .int .i64 (ln : Nat), .slice sa svs.length sc, .int .i64 wrong] #[.int .i64 (an : Nat), .int .i64 (bn : Nat), .int .i64 (mn : Nat), .int .i64 (sl : Nat), .int .i64 (sh : Nat)] 25 29
  have HFr := Lib.hid (fun W : World => freed_any W)
  have HF := Lib.hid (fun (W : World) (hW : G w W) => Far_any north cn ln wrong east svs ea sa ec sc W (he.below hW) (hs.below hW) hl hl2)
  have HC := Lib.hid (fun (W : World) (hW : G w W) => rCheck_any north cn ln wrong east svs ea sa ec sc W (he.below hW) (hs.below hW) hl hl2)
  have hvb := vm_bounds (checkE_ok t2)
  have hPin := truth_in (l := an) (by rw [hLA]; exact List.mem_singleton.2 rfl : f ∈ _)
  have hQin := truth_in (l := bn) (by rw [hLB]; exact List.mem_singleton.2 rfl : g ∈ _)
  rw [hf] at hPin
  rw [hg] at hQin
  replace hPin : px < cn ∧ py < east.length := hPin
  replace hQin : qx < cn ∧ qy < east.length := hQin
  have hPa : ∀ (W : World), G w W → Calls Try.prog 7 #[.agg #[.int .i64 north, .int .i64 (cn : Nat), .slice ea east.length ec, .int .i64 (ln : Nat), .slice sa svs.length sc, .int .i64 wrong], .int .i64 (an : Nat)] W fun e w' => ∃ v, e = .returned (.tuple #[v, .int .i64 0]) ∧ w'.ownsRow W.heap.size 39 2 v 1 [.int .i64 (px : Nat), .int .i64 (py : Nat)] ∧ G W w' := fun W hW => by
    have h := Places_ok north wrong cn ln an east svs ea sa ec sc W (he.below hW) (hs.below hW) t2 ha hw (by rw [hLA]; simp)
    unfold PlacesPost at h
    rw [hLA] at h
    have e : ptCells an [f] = [.int .i64 (px : Nat), .int .i64 (py : Nat)] := by simp [ptCells, hf]
    rw [e] at h
    exact h
  have hPb : ∀ (W : World), G w W → Calls Try.prog 7 #[.agg #[.int .i64 north, .int .i64 (cn : Nat), .slice ea east.length ec, .int .i64 (ln : Nat), .slice sa svs.length sc, .int .i64 wrong], .int .i64 (bn : Nat)] W fun e w' => ∃ v, e = .returned (.tuple #[v, .int .i64 0]) ∧ w'.ownsRow W.heap.size 39 2 v 1 [.int .i64 (qx : Nat), .int .i64 (qy : Nat)] ∧ G W w' := fun W hW => by
    have h := Places_ok north wrong cn ln bn east svs ea sa ec sc W (he.below hW) (hs.below hW) t2 hb hw (by rw [hLB]; simp)
    unfold PlacesPost at h
    rw [hLB] at h
    have e : ptCells bn [g] = [.int .i64 (qx : Nat), .int .i64 (qy : Nat)] := by simp [ptCells, hg]
    rw [e] at h
    exact h
  have hI1 := fun W : World => rPlace_any north cn ln wrong px py ea east.length ec (.slice sa svs.length sc) W (by omega) hl
  have hI2 := fun W : World => rPlace_any north cn ln wrong qx qy ea east.length ec (.slice sa svs.length sc) W (by omega) hl
  rw [plB hPin.1 hPin.2] at hI1
  rw [plB hQin.1 hQin.2] at hI2
  have HPa := Lib.hid hPa
  have HPb := Lib.hid hPb
  have HI1 := Lib.hid hI1
  have HI2 := Lib.hid hI2
  clear hPa hPb hI1 hI2
  have hxb : ((px : Int) != qx) = false := by simp; omega
  have hor : px = qx ∨ py = qy := .inl hx
  have hsq := sq_bd (ax := (px : Nat)) (bx := (qx : Nat)) (checkE_ok t2) hPin.2 hQin.2 (inB hPin.1) (inB hQin.1)
  obtain ⟨hFar, hLen⟩ := straight (north := north) (east := east) (fx := px) (fy := py) (tx := qx) (ty := qy) (by omega) hvb.2.2.2.2.2 (by omega) (by omega) hPin.2 hQin.2 (by omega) hor
  obtain ⟨eLo, eHi⟩ := dist_one (a := an) (b := bn) (f := f) (g := g) t2 hw hLA hLB (by rw [hf, hg]; simp only; omega)
  have hDi : ∀ (W : World), G w W → Calls Try.prog 9 #[.agg #[.int .i64 north, .int .i64 (cn : Nat), .slice ea east.length ec, .int .i64 (ln : Nat), .slice sa svs.length sc, .int .i64 wrong], .int .i64 (an : Nat), .int .i64 (bn : Nat), .int .i64 0] W fun e w' => e = .returned (.tuple #[.agg #[.int .i64 (rnd 0 (sqI north east px py qx qy).toNat : Nat), .int .i64 (rnd 0 (sqI north east px py qx qy).toNat : Nat)], .int .i64 0]) ∧ G W w' := fun W hW => by
    have h := Distance_ok north wrong cn ln an bn east svs ea sa ec sc 0 W (he.below hW) (hs.below hW) t2 (by omega) ha hb hw (truths_ne t2 hw)
    rw [eLo, eHi, hf, hg] at h
    exact h
  have hD1 := rnd0_le (sqI north east px py qx qy).toNat (by omega)
  have hN9 : stepsN px py qx qy ≤ 9 := by unfold stepsN dst; omega
  have hPS := fun (W : World) (hW : G w W) (gq : Nat) (hq : Blk W gq 39 #[.int .i64 (qx : Nat), .int .i64 (qy : Nat)]) => Pa_straight north wrong cn ln px py qx qy sl sh mn east svs ea sa ec sc gq W (he.below hW) (hs.below hW) t2 hPin.1 hPin.2 hQin.1 hQin.2 hm hsl hsh hsh2 hq
  have hPS2 := fun (W : World) (hW : G w W) (gq : Nat) (hq : Blk W gq 39 #[.int .i64 (qx : Nat), .int .i64 (qy : Nat)]) => Pa_straight north wrong cn ln px py qx qy sl sh mn east [] ea none ec 0 gq W (he.below hW) (.inl rfl) (check_bare t2) hPin.1 hPin.2 hQin.1 hQin.2 hm hsl hsh hsh2 hq
  have elo := last_lo (sl := sl) (sh := sh) hFar
  have ehi := last_hi (sl := sl) (sh := sh) hFar hLen
  have hget := fun k hk r hr => spV_get north east (pbK px py qx qy (stepsN px py qx qy) (stepsN px py qx qy)) sl sh mn (stepsN px py qx qy + 1) k hk r hr
  generalize rnd 0 (sqI north east px py qx qy).toNat = D at *
  generalize stepsN px py qx qy = N at *
  obtain ⟨lo, hlo⟩ : ∃ lo : Nat → Nat, lo = loT north east (pbK px py qx qy N N) sh := ⟨_, rfl⟩
  obtain ⟨hh, hhh⟩ : ∃ hh : Nat → Nat, hh = hiT north east (pbK px py qx qy N N) sl := ⟨_, rfl⟩
  rw [← hlo] at elo
  rw [← hhh] at ehi
  simp only [← hlo, ← hhh] at hget
  unfold PaPost at hPS hPS2
  generalize spV north east (pbK px py qx qy N N) sl sh mn (N + 1) = L at *
  obtain ⟨n1, hn1⟩ : ∃ n1, n1 = N + 1 := ⟨_, rfl⟩
  rw [← hn1] at hPS hPS2 hget
  have hn10 : 1 ≤ n1 ∧ n1 ≤ 10 := by omega
  have HN1 := Lib.hid hn1
  clear hn1 hN9
  clear hFar hLen eLo eHi hor hlo hhh hsq
  have HDi := Lib.hid hDi
  have HPS := Lib.hid hPS
  have HPS2 := Lib.hid hPS2
  have HGET := Lib.hid hget
  have HLO := Lib.hid elo
  have HHI := Lib.hid ehi
  have hslI : (1 : Int) ≤ sl := by omega
  clear hDi hPS hPS2 hget elo ehi
  have u1 : ¬ (ln : Int) ≤ an := by omega
  have u2 : ¬ (ln : Int) ≤ bn := by omega
  have u3 : ¬ (9999 : Int) < mn := by omega
  have u4 : ¬ (sl : Int) < 1 := by omega
  have u5 : ¬ (sh : Int) < sl := by omega
  have u6 : ¬ (3000000 : Int) < sh := by omega
  rw [t1] at HF
  rw [t2] at HC
  clear he hs hl hl2 t1 t2 ha hb hw hLA hLB hf hg hx hvb hPin hQin
  unfold StGoal
  go_enter Try.func3, Try.ntmps3
  go_wp2_with (first | (go_at_call 4; refine (HF.out _ g0).mono ?_; rintro e w1 ⟨rfl, hG1⟩; replace b0 := b0.keep hG1; replace b1 := b1.keep hG1; have m0 := b0.cell 0; have m1 := b0.cell 1; have m2 := b0.cell 2; have m3 := b0.cell 3; have m4 := b0.cell 4; have m5 := b0.cell 5; have a0 := b1.cell 0; have a1 := b1.cell 1; have a2 := b1.cell 2; have a3 := b1.cell 3; have a4 := b1.cell 4; have lM := b0.lt; have lN := b1.lt; replace g0 := g0.t hG1; clear hG1) | (go_at_call 5; refine (HC.out _ g0).mono ?_; rintro e w1 ⟨rfl, hG1⟩; clear m0 m1 m2 m3 m4 m5 a0 a1 a2 a3 a4 lM lN; replace b0 := b0.keep hG1; replace b1 := b1.keep hG1; have m0 := b0.cell 0; have m1 := b0.cell 1; have m2 := b0.cell 2; have m3 := b0.cell 3; have m4 := b0.cell 4; have m5 := b0.cell 5; have a0 := b1.cell 0; have a1 := b1.cell 1; have a2 := b1.cell 2; have a3 := b1.cell 3; have a4 := b1.cell 4; have lM := b0.lt; have lN := b1.lt; replace g0 := g0.t hG1; clear hG1))
  refine (HPa.out _ g0).mono ?_
  rintro e w3 ⟨vP, rfl, hPo, hG1⟩
  obtain ⟨gP, cP, curP, rfl, hbP, hgP, htP⟩ := own_some hPo (by omega)
  have z0 := take_cell hbP htP (k := 0) (by omega) rfl
  have z1 := take_cell hbP htP (k := 1) (by omega) rfl
  clear hPo hbP htP
  clear m0 m1 m2 m3 m4 m5 a0 a1 a2 a3 a4 lM lN; replace b0 := b0.keep hG1; replace b1 := b1.keep hG1; have m0 := b0.cell 0; have m1 := b0.cell 1; have m2 := b0.cell 2; have m3 := b0.cell 3; have m4 := b0.cell 4; have m5 := b0.cell 5; have a0 := b1.cell 0; have a1 := b1.cell 1; have a2 := b1.cell 2; have a3 := b1.cell 3; have a4 := b1.cell 4; have lM := b0.lt; have lN := b1.lt; replace g0 := g0.t hG1; clear hG1
  go_wp2_with fail
  refine (HPb.out _ g0).mono ?_
  rintro e w4 ⟨vQ, rfl, hQo, hG1⟩
  obtain ⟨gQ, cQ, curQ, rfl, hbQ, hgQ, htQ⟩ := own_some hQo (by omega)
  have z2 := take_cell hbQ htQ (k := 0) (by omega) rfl
  have z3 := take_cell hbQ htQ (k := 1) (by omega) rfl
  replace z0 := ((bcellB hG1).1 gP _ hgP).trans z0
  replace z1 := ((bcellB hG1).1 gP _ hgP).trans z1
  replace hgP := Nat.lt_of_lt_of_le hgP hG1.size
  clear hQo hbQ htQ
  clear m0 m1 m2 m3 m4 m5 a0 a1 a2 a3 a4 lM lN; replace b0 := b0.keep hG1; replace b1 := b1.keep hG1; have m0 := b0.cell 0; have m1 := b0.cell 1; have m2 := b0.cell 2; have m3 := b0.cell 3; have m4 := b0.cell 4; have m5 := b0.cell 5; have a0 := b1.cell 0; have a1 := b1.cell 1; have a2 := b1.cell 2; have a3 := b1.cell 3; have a4 := b1.cell 4; have lM := b0.lt; have lN := b1.lt; replace g0 := g0.t hG1; clear hG1
  go_wp2_with fail
  clear m0 m1 m2 m3 m4 m5 a0 a1 a2 a3 a4 lM lN
  clear HPa HPb HF HC u1 u2 u3 u4 u5 u6
  have hSk : ∀ W', G w4 W' → W'.cell? ⟨w.heap.size, 0, none⟩ = some (.int .i64 north) ∧ W'.cell? ⟨w.heap.size, 1, none⟩ = some (.int .i64 (cn : Nat)) ∧ W'.cell? ⟨w.heap.size, 2, none⟩ = some (.slice ea east.length ec) ∧ W'.cell? ⟨w.heap.size, 3, none⟩ = some (.int .i64 (ln : Nat)) ∧ W'.cell? ⟨w.heap.size, 4, none⟩ = some (.slice sa svs.length sc) ∧ W'.cell? ⟨w.heap.size, 5, none⟩ = some (.int .i64 wrong) ∧ W'.cell? ⟨gP, 0, none⟩ = some (.int .i64 (px : Nat)) ∧ W'.cell? ⟨gP, 1, none⟩ = some (.int .i64 (py : Nat)) ∧ W'.cell? ⟨gQ, 0, none⟩ = some (.int .i64 (qx : Nat)) ∧ W'.cell? ⟨gQ, 1, none⟩ = some (.int .i64 (qy : Nat)) := fun W' hW => ⟨(b0.keep hW).cell 0, (b0.keep hW).cell 1, (b0.keep hW).cell 2, (b0.keep hW).cell 3, (b0.keep hW).cell 4, (b0.keep hW).cell 5, ((bcellB hW).1 gP _ hgP).trans z0, ((bcellB hW).1 gP _ hgP).trans z1, ((bcellB hW).1 gQ _ hgQ).trans z2, ((bcellB hW).1 gQ _ hgQ).trans z3⟩
  have gd := (G.rf w4).d
  refine wp_region_Y (S := fun W' => W'.cell? ⟨w.heap.size, 0, none⟩ = some (.int .i64 north) ∧ W'.cell? ⟨w.heap.size, 1, none⟩ = some (.int .i64 (cn : Nat)) ∧ W'.cell? ⟨w.heap.size, 2, none⟩ = some (.slice ea east.length ec) ∧ W'.cell? ⟨w.heap.size, 3, none⟩ = some (.int .i64 (ln : Nat)) ∧ W'.cell? ⟨w.heap.size, 4, none⟩ = some (.slice sa svs.length sc) ∧ W'.cell? ⟨w.heap.size, 5, none⟩ = some (.int .i64 wrong) ∧ W'.cell? ⟨gP, 0, none⟩ = some (.int .i64 (px : Nat)) ∧ W'.cell? ⟨gP, 1, none⟩ = some (.int .i64 (py : Nat)) ∧ W'.cell? ⟨gQ, 0, none⟩ = some (.int .i64 (qx : Nat)) ∧ W'.cell? ⟨gQ, 1, none⟩ = some (.int .i64 (qy : Nat))) 45 46 rfl (by kernel_rfl) (hSk _ (G.rf _).d) (fun hS => ?_)
  change wpAnyY _ _ ops7 _ _ _ 46 #[false, false, false, false, false, false, false, false, false, false, false, false, false, false, false, false, false, false, false, false, false, false, false, false, false, false, false, false, false, false, false, false, false, false, false, false, false, false, false, false, false, false, false, false, false, false] _ _
  refine wpAnyY_takeC (v := ?_) [24, 23, 16, 15, 8, 3, 2, 1] r7_0 r7o_0 (fun _ _ _ h => h) (Or.inl ⟨by kernel_rfl, ?_⟩) hS ?_
  rotate_left
  · intro w' hSw; go_simp; with_reducible rfl
  try simp only [Act.put, List.getElem_toArray, List.getElem_cons_zero, List.getElem_cons_succ, List.setIfInBounds_toArray, List.set_cons_zero, List.set_cons_succ]
  refine wpAnyY_takeC (v := ?_) [24, 23, 16, 15, 8, 3, 2] r7_1 r7o_1 (fun _ _ _ h => h) (Or.inl ⟨by kernel_rfl, ?_⟩) hS ?_
  rotate_left
  · intro w' hSw; go_simp; with_reducible rfl
  try simp only [Act.put, List.getElem_toArray, List.getElem_cons_zero, List.getElem_cons_succ, List.setIfInBounds_toArray, List.set_cons_zero, List.set_cons_succ]
  refine wpAnyY_takeC (v := ?_) [24, 23, 16, 15, 8, 3] r7_2 r7o_2 (fun _ _ _ h => h) (Or.inl ⟨by kernel_rfl, ?_⟩) hS ?_
  rotate_left
  · intro w' hSw; go_simp; with_reducible rfl
  try simp only [Act.put, List.getElem_toArray, List.getElem_cons_zero, List.getElem_cons_succ, List.setIfInBounds_toArray, List.set_cons_zero, List.set_cons_succ]
  refine wpAnyY_takeC (v := ?_) [24, 23, 16, 15, 8] r7_3 r7o_3 (fun _ _ _ h => h) (Or.inl ⟨by kernel_rfl, ?_⟩) hS ?_
  rotate_left
  · intro w' hSw; go_simp; with_reducible rfl
  try simp only [Act.put, List.getElem_toArray, List.getElem_cons_zero, List.getElem_cons_succ, List.setIfInBounds_toArray, List.set_cons_zero, List.set_cons_succ]
  refine wpAnyY_takeC (v := ?_) [24, 23, 16, 15, 8, 7, 6, 5] r7_4 r7o_4 (fun _ _ _ h => h) (Or.inl ⟨by kernel_rfl, ?_⟩) hS ?_
  rotate_left
  · intro w' hSw; go_simp; with_reducible rfl
  try simp only [Act.put, List.getElem_toArray, List.getElem_cons_zero, List.getElem_cons_succ, List.setIfInBounds_toArray, List.set_cons_zero, List.set_cons_succ]
  refine wpAnyY_takeC (v := ?_) [24, 23, 16, 15, 8, 7, 6] r7_5 r7o_5 (fun _ _ _ h => h) (Or.inl ⟨by kernel_rfl, ?_⟩) hS ?_
  rotate_left
  · intro w' hSw; go_simp; with_reducible rfl
  try simp only [Act.put, List.getElem_toArray, List.getElem_cons_zero, List.getElem_cons_succ, List.setIfInBounds_toArray, List.set_cons_zero, List.set_cons_succ]
  refine wpAnyY_takeC (v := ?_) [24, 23, 16, 15, 8, 7] r7_6 r7o_6 (fun _ _ _ h => h) (Or.inl ⟨by kernel_rfl, ?_⟩) hS ?_
  rotate_left
  · intro w' hSw; go_simp; with_reducible rfl
  try simp only [Act.put, List.getElem_toArray, List.getElem_cons_zero, List.getElem_cons_succ, List.setIfInBounds_toArray, List.set_cons_zero, List.set_cons_succ]
  refine wpAnyY_takeC (v := ?_) [24, 23, 16, 15, 8] r7_7 r7o_7 (fun _ _ _ h => h) (Or.inl ⟨by kernel_rfl, ?_⟩) hS ?_
  rotate_left
  · intro w' hSw; go_simp; with_reducible rfl
  try simp only [Act.put, List.getElem_toArray, List.getElem_cons_zero, List.getElem_cons_succ, List.setIfInBounds_toArray, List.set_cons_zero, List.set_cons_succ]
  refine wpAnyY_takeC (v := ?_) [24, 23, 16, 15] r7_8 r7o_8 (fun _ _ _ h => h) (Or.inl ⟨by kernel_rfl, ?_⟩) hS ?_
  rotate_left
  · intro w' hSw; go_simp; with_reducible rfl
  try simp only [Act.put, List.getElem_toArray, List.getElem_cons_zero, List.getElem_cons_succ, List.setIfInBounds_toArray, List.set_cons_zero, List.set_cons_succ]
  refine wpAnyY_takeC (v := ?_) [24, 23, 16, 13] r7_9 r7o_9 (fun _ _ _ h => h) (Or.inl ⟨by kernel_rfl, ?_⟩) hS ?_
  rotate_left
  · intro w' hSw; obtain ⟨y0, y1, y2, y3, y4, y5, z0, z1, z2, z3⟩ := hSw; go_simp; with_reducible rfl
  try simp only [Act.put, List.getElem_toArray, List.getElem_cons_zero, List.getElem_cons_succ, List.setIfInBounds_toArray, List.set_cons_zero, List.set_cons_succ]
  refine wpAnyY_takeC (v := ?_) [24, 23, 16, 13, 12, 11] r7_10 r7o_10 (fun _ _ _ h => h) (Or.inl ⟨by kernel_rfl, ?_⟩) hS ?_
  rotate_left
  · intro w' hSw; go_simp; with_reducible rfl
  try simp only [Act.put, List.getElem_toArray, List.getElem_cons_zero, List.getElem_cons_succ, List.setIfInBounds_toArray, List.set_cons_zero, List.set_cons_succ]
  refine wpAnyY_takeC (v := ?_) [24, 23, 16, 13, 12] r7_11 r7o_11 (fun _ _ _ h => h) (Or.inl ⟨by kernel_rfl, ?_⟩) hS ?_
  rotate_left
  · intro w' hSw; go_simp; with_reducible rfl
  try simp only [Act.put, List.getElem_toArray, List.getElem_cons_zero, List.getElem_cons_succ, List.setIfInBounds_toArray, List.set_cons_zero, List.set_cons_succ]
  refine wpAnyY_takeC (v := ?_) [24, 23, 16, 13] r7_12 r7o_12 (fun _ _ _ h => h) (Or.inl ⟨by kernel_rfl, ?_⟩) hS ?_
  rotate_left
  · intro w' hSw; obtain ⟨y0, y1, y2, y3, y4, y5, z0, z1, z2, z3⟩ := hSw; go_simp; with_reducible rfl
  try simp only [Act.put, List.getElem_toArray, List.getElem_cons_zero, List.getElem_cons_succ, List.setIfInBounds_toArray, List.set_cons_zero, List.set_cons_succ]
  refine wpAnyY_oneSWC r7_13 r7o_13 (by kernel_rfl) (fun K13 hK13 => ?_)
  go_simp
  refine (HI1.out _).mono ?_
  rintro e w13 ⟨rfl, hGr13⟩
  replace gd := gd.t hGr13
  refine hK13.out _ _ (hSk _ gd) (fun hS => ?_)
  clear hGr13 hK13
  try simp only [Act.put, List.getElem_toArray, List.getElem_cons_zero, List.getElem_cons_succ, List.setIfInBounds_toArray, List.set_cons_zero, List.set_cons_succ]
  refine wpAnyY_takeC (v := ?_) [24, 23, 16, 15] r7_14 r7o_14 (fun _ _ _ h => h) (Or.inl ⟨by kernel_rfl, ?_⟩) hS ?_
  rotate_left
  · intro w' hSw; go_simp; with_reducible rfl
  try simp only [Act.put, List.getElem_toArray, List.getElem_cons_zero, List.getElem_cons_succ, List.setIfInBounds_toArray, List.set_cons_zero, List.set_cons_succ]
  refine wpAnyY_takeC (v := ?_) [24, 23, 16] r7_15 r7o_15 (fun _ _ _ h => h) (Or.inl ⟨by kernel_rfl, ?_⟩) hS ?_
  rotate_left
  · intro w' hSw; go_simp; with_reducible rfl
  try simp only [Act.put, List.getElem_toArray, List.getElem_cons_zero, List.getElem_cons_succ, List.setIfInBounds_toArray, List.set_cons_zero, List.set_cons_succ]
  refine wpAnyY_takeC (v := ?_) [24, 23] r7_16 r7o_16 (fun _ _ _ h => h) (Or.inl ⟨by kernel_rfl, ?_⟩) hS ?_
  rotate_left
  · intro w' hSw; go_simp; with_reducible rfl
  try simp only [Act.put, List.getElem_toArray, List.getElem_cons_zero, List.getElem_cons_succ, List.setIfInBounds_toArray, List.set_cons_zero, List.set_cons_succ]
  refine wpAnyY_takeC (v := ?_) [24, 21] r7_17 r7o_17 (fun _ _ _ h => h) (Or.inl ⟨by kernel_rfl, ?_⟩) hS ?_
  rotate_left
  · intro w' hSw; obtain ⟨y0, y1, y2, y3, y4, y5, z0, z1, z2, z3⟩ := hSw; go_simp; with_reducible rfl
  try simp only [Act.put, List.getElem_toArray, List.getElem_cons_zero, List.getElem_cons_succ, List.setIfInBounds_toArray, List.set_cons_zero, List.set_cons_succ]
  refine wpAnyY_takeC (v := ?_) [24, 21, 20, 19] r7_18 r7o_18 (fun _ _ _ h => h) (Or.inl ⟨by kernel_rfl, ?_⟩) hS ?_
  rotate_left
  · intro w' hSw; go_simp; with_reducible rfl
  try simp only [Act.put, List.getElem_toArray, List.getElem_cons_zero, List.getElem_cons_succ, List.setIfInBounds_toArray, List.set_cons_zero, List.set_cons_succ]
  refine wpAnyY_takeC (v := ?_) [24, 21, 20] r7_19 r7o_19 (fun _ _ _ h => h) (Or.inl ⟨by kernel_rfl, ?_⟩) hS ?_
  rotate_left
  · intro w' hSw; go_simp; with_reducible rfl
  try simp only [Act.put, List.getElem_toArray, List.getElem_cons_zero, List.getElem_cons_succ, List.setIfInBounds_toArray, List.set_cons_zero, List.set_cons_succ]
  refine wpAnyY_takeC (v := ?_) [24, 21] r7_20 r7o_20 (fun _ _ _ h => h) (Or.inl ⟨by kernel_rfl, ?_⟩) hS ?_
  rotate_left
  · intro w' hSw; obtain ⟨y0, y1, y2, y3, y4, y5, z0, z1, z2, z3⟩ := hSw; go_simp; with_reducible rfl
  try simp only [Act.put, List.getElem_toArray, List.getElem_cons_zero, List.getElem_cons_succ, List.setIfInBounds_toArray, List.set_cons_zero, List.set_cons_succ]
  refine wpAnyY_oneSWC r7_21 r7o_21 (by kernel_rfl) (fun K21 hK21 => ?_)
  go_simp
  refine (HI2.out _).mono ?_
  rintro e w21 ⟨rfl, hGr21⟩
  replace gd := gd.t hGr21
  refine hK21.out _ _ (hSk _ gd) (fun hS => ?_)
  clear hGr21 hK21
  try simp only [Act.put, List.getElem_toArray, List.getElem_cons_zero, List.getElem_cons_succ, List.setIfInBounds_toArray, List.set_cons_zero, List.set_cons_succ]
  refine wpAnyY_takeC (v := ?_) [24, 23] r7_22 r7o_22 (fun _ _ _ h => h) (Or.inl ⟨by kernel_rfl, ?_⟩) hS ?_
  rotate_left
  · intro w' hSw; go_simp; with_reducible rfl
  try simp only [Act.put, List.getElem_toArray, List.getElem_cons_zero, List.getElem_cons_succ, List.setIfInBounds_toArray, List.set_cons_zero, List.set_cons_succ]
  refine wpAnyY_takeC (v := ?_) [24] r7_23 r7o_23 (fun _ _ _ h => h) (Or.inl ⟨by kernel_rfl, ?_⟩) hS ?_
  rotate_left
  · intro w' hSw; go_simp; with_reducible rfl
  try simp only [Act.put, List.getElem_toArray, List.getElem_cons_zero, List.getElem_cons_succ, List.setIfInBounds_toArray, List.set_cons_zero, List.set_cons_succ]
  refine wpAnyY_takeC (v := ?_) [] r7_24 r7o_24 (fun _ _ _ h => h) (Or.inl ⟨by kernel_rfl, ?_⟩) hS ?_
  rotate_left
  · intro w' hSw; go_simp; with_reducible rfl
  try simp only [Act.put, List.getElem_toArray, List.getElem_cons_zero, List.getElem_cons_succ, List.setIfInBounds_toArray, List.set_cons_zero, List.set_cons_succ]
  refine wpAnyY_takeC (v := ?_) [44, 34, 33, 28, 27, 26] r7_25 r7o_25 (fun _ _ _ h => h) (Or.inl ⟨by kernel_rfl, ?_⟩) hS ?_
  rotate_left
  · intro w' hSw; go_simp; with_reducible rfl
  try simp only [Act.put, List.getElem_toArray, List.getElem_cons_zero, List.getElem_cons_succ, List.setIfInBounds_toArray, List.set_cons_zero, List.set_cons_succ]
  refine wpAnyY_takeC (v := ?_) [44, 34, 33, 28, 27] r7_26 r7o_26 (fun _ _ _ h => h) (Or.inl ⟨by kernel_rfl, ?_⟩) hS ?_
  rotate_left
  · intro w' hSw; go_simp; with_reducible rfl
  try simp only [Act.put, List.getElem_toArray, List.getElem_cons_zero, List.getElem_cons_succ, List.setIfInBounds_toArray, List.set_cons_zero, List.set_cons_succ]
  refine wpAnyY_takeC (v := ?_) [44, 34, 33, 28] r7_27 r7o_27 (fun _ _ _ h => h) (Or.inl ⟨by kernel_rfl, ?_⟩) hS ?_
  rotate_left
  · intro w' hSw; go_simp; with_reducible rfl
  try simp only [Act.put, List.getElem_toArray, List.getElem_cons_zero, List.getElem_cons_succ, List.setIfInBounds_toArray, List.set_cons_zero, List.set_cons_succ]
  refine wpAnyY_takeC (v := ?_) [44, 34, 33] r7_28 r7o_28 (fun _ _ _ h => h) (Or.inl ⟨by kernel_rfl, ?_⟩) hS ?_
  rotate_left
  · intro w' hSw; obtain ⟨y0, y1, y2, y3, y4, y5, z0, z1, z2, z3⟩ := hSw; go_simp; with_reducible rfl
  try simp only [Act.put, List.getElem_toArray, List.getElem_cons_zero, List.getElem_cons_succ, List.setIfInBounds_toArray, List.set_cons_zero, List.set_cons_succ]
  refine wpAnyY_takeC (v := ?_) [44, 34, 33, 32, 31, 30] r7_29 r7o_29 (fun _ _ _ h => h) (Or.inl ⟨by kernel_rfl, ?_⟩) hS ?_
  rotate_left
  · intro w' hSw; go_simp; with_reducible rfl
  try simp only [Act.put, List.getElem_toArray, List.getElem_cons_zero, List.getElem_cons_succ, List.setIfInBounds_toArray, List.set_cons_zero, List.set_cons_succ]
  refine wpAnyY_takeC (v := ?_) [44, 34, 33, 32, 31] r7_30 r7o_30 (fun _ _ _ h => h) (Or.inl ⟨by kernel_rfl, ?_⟩) hS ?_
  rotate_left
  · intro w' hSw; go_simp; with_reducible rfl
  try simp only [Act.put, List.getElem_toArray, List.getElem_cons_zero, List.getElem_cons_succ, List.setIfInBounds_toArray, List.set_cons_zero, List.set_cons_succ]
  refine wpAnyY_takeC (v := ?_) [44, 34, 33, 32] r7_31 r7o_31 (fun _ _ _ h => h) (Or.inl ⟨by kernel_rfl, ?_⟩) hS ?_
  rotate_left
  · intro w' hSw; go_simp; with_reducible rfl
  try simp only [Act.put, List.getElem_toArray, List.getElem_cons_zero, List.getElem_cons_succ, List.setIfInBounds_toArray, List.set_cons_zero, List.set_cons_succ]
  refine wpAnyY_takeC (v := ?_) [44, 34, 33] r7_32 r7o_32 (fun _ _ _ h => h) (Or.inl ⟨by kernel_rfl, ?_⟩) hS ?_
  rotate_left
  · intro w' hSw; obtain ⟨y0, y1, y2, y3, y4, y5, z0, z1, z2, z3⟩ := hSw; go_simp; with_reducible rfl
  try simp only [Act.put, List.getElem_toArray, List.getElem_cons_zero, List.getElem_cons_succ, List.setIfInBounds_toArray, List.set_cons_zero, List.set_cons_succ]
  refine wpAnyY_takeC (v := ?_) [44, 34] r7_33 r7o_33 (fun _ _ _ h => h) (Or.inl ⟨by kernel_rfl, ?_⟩) hS ?_
  rotate_left
  · intro w' hSw; go_simp; with_reducible rfl
  try simp only [Act.put, List.getElem_toArray, List.getElem_cons_zero, List.getElem_cons_succ, List.setIfInBounds_toArray, List.set_cons_zero, List.set_cons_succ]
  refine wpAnyY_takeC (v := ?_) [44] r7_34 r7o_34 (fun _ _ _ h => h) (Or.inl ⟨by kernel_rfl, ?_⟩) hS ?_
  rotate_left
  · intro w' hSw; go_simp; with_reducible rfl
  try simp only [Act.put, List.getElem_toArray, List.getElem_cons_zero, List.getElem_cons_succ, List.setIfInBounds_toArray, List.set_cons_zero, List.set_cons_succ]
  refine wpAnyY_takeC (v := undef) [44, 43, 38, 37, 36] r7_35 r7o_35 (fun _ _ _ h => h) (Or.inr ⟨by kernel_rfl, rfl⟩) hS ?_
  try simp only [Act.put, List.getElem_toArray, List.getElem_cons_zero, List.getElem_cons_succ, List.setIfInBounds_toArray, List.set_cons_zero, List.set_cons_succ]
  refine wpAnyY_takeC (v := undef) [44, 43, 38, 37] r7_36 r7o_36 (fun _ _ _ h => h) (Or.inr ⟨by kernel_rfl, rfl⟩) hS ?_
  try simp only [Act.put, List.getElem_toArray, List.getElem_cons_zero, List.getElem_cons_succ, List.setIfInBounds_toArray, List.set_cons_zero, List.set_cons_succ]
  refine wpAnyY_takeC (v := undef) [44, 43, 38] r7_37 r7o_37 (fun _ _ _ h => h) (Or.inr ⟨by kernel_rfl, rfl⟩) hS ?_
  try simp only [Act.put, List.getElem_toArray, List.getElem_cons_zero, List.getElem_cons_succ, List.setIfInBounds_toArray, List.set_cons_zero, List.set_cons_succ]
  refine wpAnyY_takeC (v := undef) [44, 43] r7_38 r7o_38 (fun _ _ _ h => h) (Or.inr ⟨by kernel_rfl, rfl⟩) hS ?_
  try simp only [Act.put, List.getElem_toArray, List.getElem_cons_zero, List.getElem_cons_succ, List.setIfInBounds_toArray, List.set_cons_zero, List.set_cons_succ]
  refine wpAnyY_takeC (v := undef) [44, 43, 42, 41, 40] r7_39 r7o_39 (fun _ _ _ h => h) (Or.inr ⟨by kernel_rfl, rfl⟩) hS ?_
  try simp only [Act.put, List.getElem_toArray, List.getElem_cons_zero, List.getElem_cons_succ, List.setIfInBounds_toArray, List.set_cons_zero, List.set_cons_succ]
  refine wpAnyY_takeC (v := undef) [44, 43, 42, 41] r7_40 r7o_40 (fun _ _ _ h => h) (Or.inr ⟨by kernel_rfl, rfl⟩) hS ?_
  try simp only [Act.put, List.getElem_toArray, List.getElem_cons_zero, List.getElem_cons_succ, List.setIfInBounds_toArray, List.set_cons_zero, List.set_cons_succ]
  refine wpAnyY_takeC (v := undef) [44, 43, 42] r7_41 r7o_41 (fun _ _ _ h => h) (Or.inr ⟨by kernel_rfl, rfl⟩) hS ?_
  try simp only [Act.put, List.getElem_toArray, List.getElem_cons_zero, List.getElem_cons_succ, List.setIfInBounds_toArray, List.set_cons_zero, List.set_cons_succ]
  refine wpAnyY_takeC (v := undef) [44, 43] r7_42 r7o_42 (fun _ _ _ h => h) (Or.inr ⟨by kernel_rfl, rfl⟩) hS ?_
  try simp only [Act.put, List.getElem_toArray, List.getElem_cons_zero, List.getElem_cons_succ, List.setIfInBounds_toArray, List.set_cons_zero, List.set_cons_succ]
  refine wpAnyY_takeC (v := undef) [44] r7_43 r7o_43 (fun _ _ _ h => h) (Or.inr ⟨by kernel_rfl, rfl⟩) hS ?_
  try simp only [Act.put, List.getElem_toArray, List.getElem_cons_zero, List.getElem_cons_succ, List.setIfInBounds_toArray, List.set_cons_zero, List.set_cons_succ]
  refine wpAnyY_takeC (v := ?_) [] r7_44 r7o_44 (fun _ _ _ h => h) (Or.inl ⟨by kernel_rfl, ?_⟩) hS ?_
  rotate_left
  · intro w' hSw; go_simp; with_reducible rfl
  try simp only [Act.put, List.getElem_toArray, List.getElem_cons_zero, List.getElem_cons_succ, List.setIfInBounds_toArray, List.set_cons_zero, List.set_cons_succ]
  refine wpAnyY_oneW (i := 45) (by kernel_rfl) r7o_45 (by kernel_rfl) (by kernel_rfl) (fun K45 hK45 => ?_)
  go_simp
  refine hK45.out _ _ ?_
  try simp only [Act.put, List.getElem_toArray, List.getElem_cons_zero, List.getElem_cons_succ, List.setIfInBounds_toArray, List.set_cons_zero, List.set_cons_succ]
  refine wpAnyY_done (by kernel_rfl) ?_ _
  clear hS hK45 hSk
  have hG1 := gd
  replace z0 := ((bcellB hG1).1 gP _ hgP).trans z0
  replace z1 := ((bcellB hG1).1 gP _ hgP).trans z1
  replace z2 := ((bcellB hG1).1 gQ _ hgQ).trans z2
  replace z3 := ((bcellB hG1).1 gQ _ hgQ).trans z3
  replace hgP := Nat.lt_of_lt_of_le hgP hG1.size
  replace hgQ := Nat.lt_of_lt_of_le hgQ hG1.size
  replace b0 := b0.keep hG1; replace b1 := b1.keep hG1; replace g0 := g0.t hG1; clear hG1 gd; have m0 := b0.cell 0; have m1 := b0.cell 1; have m2 := b0.cell 2; have m3 := b0.cell 3; have m4 := b0.cell 4; have m5 := b0.cell 5; have a0 := b1.cell 0; have a1 := b1.cell 1; have a2 := b1.cell 2; have a3 := b1.cell 3; have a4 := b1.cell 4; have lM := b0.lt; have lN := b1.lt
  go_wp2_with fail
  refine (HDi.out _ g0).mono ?_
  rintro e w30 ⟨rfl, hG1⟩
  replace z0 := ((bcellB hG1).1 gP _ hgP).trans z0
  replace z1 := ((bcellB hG1).1 gP _ hgP).trans z1
  replace z2 := ((bcellB hG1).1 gQ _ hgQ).trans z2
  replace z3 := ((bcellB hG1).1 gQ _ hgQ).trans z3
  replace hgP := Nat.lt_of_lt_of_le hgP hG1.size
  replace hgQ := Nat.lt_of_lt_of_le hgQ hG1.size
  clear m0 m1 m2 m3 m4 m5 a0 a1 a2 a3 a4 lM lN; replace b0 := b0.keep hG1; replace b1 := b1.keep hG1; have m0 := b0.cell 0; have m1 := b0.cell 1; have m2 := b0.cell 2; have m3 := b0.cell 3; have m4 := b0.cell 4; have m5 := b0.cell 5; have a0 := b1.cell 0; have a1 := b1.cell 1; have a2 := b1.cell 2; have a3 := b1.cell 3; have a4 := b1.cell 4; have lM := b0.lt; have lN := b1.lt; replace g0 := g0.t hG1; clear hG1
  go_wp2_with fail
  have hG1 : G w30 (w30.alloc (.cells #[.int .i64 (D : Nat), .int .i64 (D : Nat)] 27)) := (G.rf _).a _
  have bS := Blk.new w30 27 #[.int .i64 (D : Nat), .int .i64 (D : Nat)]
  replace z0 := ((bcellB hG1).1 gP _ hgP).trans z0
  replace z1 := ((bcellB hG1).1 gP _ hgP).trans z1
  replace z2 := ((bcellB hG1).1 gQ _ hgQ).trans z2
  replace z3 := ((bcellB hG1).1 gQ _ hgQ).trans z3
  replace hgP := Nat.lt_of_lt_of_le hgP hG1.size
  replace hgQ := Nat.lt_of_lt_of_le hgQ hG1.size
  clear m0 m1 m2 m3 m4 m5 a0 a1 a2 a3 a4 lM lN
  replace b0 := b0.keep hG1; replace b1 := b1.keep hG1; replace g0 := g0.t hG1; clear hG1
  generalize w30.alloc (.cells #[.int .i64 (D : Nat), .int .i64 (D : Nat)] 27) = w31 at *
  obtain ⟨nS, hnS⟩ : ∃ n, n = w30.heap.size := ⟨_, rfl⟩
  rw [← hnS] at bS ⊢
  clear hnS HDi HI1 HI2
  have hSk : ∀ W', G w31 W' → ((W'.cell? ⟨w.heap.size, 0, none⟩ = some (.int .i64 north) ∧ W'.cell? ⟨w.heap.size, 1, none⟩ = some (.int .i64 (cn : Nat)) ∧ W'.cell? ⟨w.heap.size, 2, none⟩ = some (.slice ea east.length ec) ∧ W'.cell? ⟨w.heap.size, 3, none⟩ = some (.int .i64 (ln : Nat)) ∧ W'.cell? ⟨w.heap.size, 4, none⟩ = some (.slice sa svs.length sc) ∧ W'.cell? ⟨w.heap.size, 5, none⟩ = some (.int .i64 wrong) ∧ W'.cell? ⟨gP, 0, none⟩ = some (.int .i64 (px : Nat)) ∧ W'.cell? ⟨gP, 1, none⟩ = some (.int .i64 (py : Nat)) ∧ W'.cell? ⟨gQ, 0, none⟩ = some (.int .i64 (qx : Nat)) ∧ W'.cell? ⟨gQ, 1, none⟩ = some (.int .i64 (qy : Nat))) ∧ W'.cell? ⟨w.heap.size + 1, 3, none⟩ = some (.int .i64 (sl : Nat)) ∧ W'.cell? ⟨w.heap.size + 1, 4, none⟩ = some (.int .i64 (sh : Nat))) := fun W' hW => ⟨⟨(b0.keep hW).cell 0, (b0.keep hW).cell 1, (b0.keep hW).cell 2, (b0.keep hW).cell 3, (b0.keep hW).cell 4, (b0.keep hW).cell 5, ((bcellB hW).1 gP _ hgP).trans z0, ((bcellB hW).1 gP _ hgP).trans z1, ((bcellB hW).1 gQ _ hgQ).trans z2, ((bcellB hW).1 gQ _ hgQ).trans z3⟩, (b1.keep hW).cell 3, (b1.keep hW).cell 4⟩
  clear z0 z1 z2 z3 hgP hgQ
  refine wp_region_Y (S := fun W' => (W'.cell? ⟨w.heap.size, 0, none⟩ = some (.int .i64 north) ∧ W'.cell? ⟨w.heap.size, 1, none⟩ = some (.int .i64 (cn : Nat)) ∧ W'.cell? ⟨w.heap.size, 2, none⟩ = some (.slice ea east.length ec) ∧ W'.cell? ⟨w.heap.size, 3, none⟩ = some (.int .i64 (ln : Nat)) ∧ W'.cell? ⟨w.heap.size, 4, none⟩ = some (.slice sa svs.length sc) ∧ W'.cell? ⟨w.heap.size, 5, none⟩ = some (.int .i64 wrong) ∧ W'.cell? ⟨gP, 0, none⟩ = some (.int .i64 (px : Nat)) ∧ W'.cell? ⟨gP, 1, none⟩ = some (.int .i64 (py : Nat)) ∧ W'.cell? ⟨gQ, 0, none⟩ = some (.int .i64 (qx : Nat)) ∧ W'.cell? ⟨gQ, 1, none⟩ = some (.int .i64 (qy : Nat))) ∧ W'.cell? ⟨w.heap.size + 1, 3, none⟩ = some (.int .i64 (sl : Nat)) ∧ W'.cell? ⟨w.heap.size + 1, 4, none⟩ = some (.int .i64 (sh : Nat))) 12 13 rfl (by kernel_rfl) (hSk _ (G.rf _).d) (fun hS => ?_)
  refine wpAnyY_take (i := 0) (v := ?_) rfl (by kernel_rfl) (by kernel_rfl) (by kernel_rfl) (by kernel_rfl) (fun _ _ _ h => h) (Or.inl ⟨by kernel_rfl, ?_⟩) hS ?_
  rotate_left
  · intro w' hSw; obtain ⟨⟨y0, y1, y2, y3, y4, y5, z0, z1, z2, z3⟩, x0, x1⟩ := hSw; go_simp; with_reducible rfl
  try simp only [Act.put, List.getElem_toArray, List.getElem_cons_zero, List.getElem_cons_succ, List.setIfInBounds_toArray, List.set_cons_zero, List.set_cons_succ]
  refine wpAnyY_take (i := 1) (v := ?_) rfl (by kernel_rfl) (by kernel_rfl) (by kernel_rfl) (by kernel_rfl) (fun _ _ _ h => h) (Or.inl ⟨by kernel_rfl, ?_⟩) hS ?_
  rotate_left
  · intro w' hSw; go_simp; with_reducible rfl
  try simp only [Act.put, List.getElem_toArray, List.getElem_cons_zero, List.getElem_cons_succ, List.setIfInBounds_toArray, List.set_cons_zero, List.set_cons_succ]
  refine wpAnyY_take (i := 2) (v := ?_) rfl (by kernel_rfl) (by kernel_rfl) (by kernel_rfl) (by kernel_rfl) (fun _ _ _ h => h) (Or.inl ⟨by kernel_rfl, ?_⟩) hS ?_
  rotate_left
  · intro w' hSw; go_simp; with_reducible rfl
  try simp only [Act.put, List.getElem_toArray, List.getElem_cons_zero, List.getElem_cons_succ, List.setIfInBounds_toArray, List.set_cons_zero, List.set_cons_succ]
  refine wpAnyY_take (i := 3) (v := ?_) rfl (by kernel_rfl) (by kernel_rfl) (by kernel_rfl) (by kernel_rfl) (fun _ _ _ h => h) (Or.inl ⟨by kernel_rfl, ?_⟩) hS ?_
  rotate_left
  · intro w' hSw; obtain ⟨⟨y0, y1, y2, y3, y4, y5, z0, z1, z2, z3⟩, x0, x1⟩ := hSw; go_simp; with_reducible rfl
  try simp only [Act.put, List.getElem_toArray, List.getElem_cons_zero, List.getElem_cons_succ, List.setIfInBounds_toArray, List.set_cons_zero, List.set_cons_succ]
  refine wpAnyY_take (i := 4) (v := ?_) rfl (by kernel_rfl) (by kernel_rfl) (by kernel_rfl) (by kernel_rfl) (fun _ _ _ h => h) (Or.inl ⟨by kernel_rfl, ?_⟩) hS ?_
  rotate_left
  · intro w' hSw; go_simp; with_reducible rfl
  try simp only [Act.put, List.getElem_toArray, List.getElem_cons_zero, List.getElem_cons_succ, List.setIfInBounds_toArray, List.set_cons_zero, List.set_cons_succ]
  refine wpAnyY_take (i := 5) (v := ?_) rfl (by kernel_rfl) (by kernel_rfl) (by kernel_rfl) (by kernel_rfl) (fun _ _ _ h => h) (Or.inl ⟨by kernel_rfl, ?_⟩) hS ?_
  rotate_left
  · intro w' hSw; go_simp; with_reducible rfl
  try simp only [Act.put, List.getElem_toArray, List.getElem_cons_zero, List.getElem_cons_succ, List.setIfInBounds_toArray, List.set_cons_zero, List.set_cons_succ]
  refine wpAnyY_take (i := 6) (v := ?_) rfl (by kernel_rfl) (by kernel_rfl) (by kernel_rfl) (by kernel_rfl) (fun _ _ _ h => h) (Or.inl ⟨by kernel_rfl, ?_⟩) hS ?_
  rotate_left
  · intro w' hSw; obtain ⟨⟨y0, y1, y2, y3, y4, y5, z0, z1, z2, z3⟩, x0, x1⟩ := hSw; go_simp; with_reducible rfl
  try simp only [Act.put, List.getElem_toArray, List.getElem_cons_zero, List.getElem_cons_succ, List.setIfInBounds_toArray, List.set_cons_zero, List.set_cons_succ]
  refine wpAnyY_take (i := 8) (v := ?_) rfl (by kernel_rfl) (by kernel_rfl) (by kernel_rfl) (by kernel_rfl) (fun _ _ _ h => h) (Or.inl ⟨by kernel_rfl, ?_⟩) hS ?_
  rotate_left
  · intro w' hSw; go_simp; with_reducible rfl
  try simp only [Act.put, List.getElem_toArray, List.getElem_cons_zero, List.getElem_cons_succ, List.setIfInBounds_toArray, List.set_cons_zero, List.set_cons_succ]
  refine wpAnyY_take (i := 9) (v := ?_) rfl (by kernel_rfl) (by kernel_rfl) (by kernel_rfl) (by kernel_rfl) (fun _ _ _ h => h) (Or.inl ⟨by kernel_rfl, ?_⟩) hS ?_
  rotate_left
  · intro w' hSw; obtain ⟨⟨y0, y1, y2, y3, y4, y5, z0, z1, z2, z3⟩, x0, x1⟩ := hSw; go_simp; with_reducible rfl
  try simp only [Act.put, List.getElem_toArray, List.getElem_cons_zero, List.getElem_cons_succ, List.setIfInBounds_toArray, List.set_cons_zero, List.set_cons_succ]
  have gd := (G.rf w31).d
  have hSd : ∀ W', G w31.drew W' → (W'.cell? ⟨w.heap.size, 0, none⟩ = some (.int .i64 north) ∧ W'.cell? ⟨w.heap.size, 1, none⟩ = some (.int .i64 (cn : Nat)) ∧ W'.cell? ⟨w.heap.size, 2, none⟩ = some (.slice ea east.length ec) ∧ W'.cell? ⟨w.heap.size, 3, none⟩ = some (.int .i64 (ln : Nat)) ∧ W'.cell? ⟨w.heap.size, 4, none⟩ = some (.slice sa svs.length sc) ∧ W'.cell? ⟨w.heap.size, 5, none⟩ = some (.int .i64 wrong) ∧ W'.cell? ⟨gP, 0, none⟩ = some (.int .i64 (px : Nat)) ∧ W'.cell? ⟨gP, 1, none⟩ = some (.int .i64 (py : Nat)) ∧ W'.cell? ⟨gQ, 0, none⟩ = some (.int .i64 (qx : Nat)) ∧ W'.cell? ⟨gQ, 1, none⟩ = some (.int .i64 (qy : Nat))) ∧ W'.cell? ⟨w.heap.size + 1, 3, none⟩ = some (.int .i64 (sl : Nat)) ∧ W'.cell? ⟨w.heap.size + 1, 4, none⟩ = some (.int .i64 (sh : Nat)) := fun W' hW => hSk W' (gd.t hW)
  refine wpAnyY_perm (fuel := 1) (N := 3) (lF := #[true, true, true, true, true, true, true, true, true, true, true, true, false]) [(7, 170), (10, 173), (11, 11)] [(10, 7)] _ (R10 (relS north wrong cn ln px py sl sh ea east.length ec sa svs.length sc) qx qy w31.heap.size) rfl (by kernel_rfl) (by decide) (by decide) (by kernel_rfl) hSd (fun p _ v W W' h k => R10_keep h k) ?_ ?_
  · intro p hp f W K' hW hd hK
    simp only [List.mem_cons, List.not_mem_nil, or_false] at hp
    rcases hp with rfl | rfl | rfl
    · simp only [TP, List.foldl_cons, List.foldl_nil, List.setIfInBounds_toArray, List.set_cons_zero, List.set_cons_succ] at hK ⊢
      have HK := Lib.hid hK
      clear hK hd
      refine ⟨_, rfl, by kernel_rfl, ?_⟩
      go_simp
      try simp only [Act.put, List.getElem_toArray, List.getElem_cons_zero, List.getElem_cons_succ, List.setIfInBounds_toArray, List.set_cons_zero, List.set_cons_succ]
      exact HK.out _ _ ((G.rf W).a _) ⟨fun _ => ⟨_, rfl, Blk.new W 39 _⟩, fun e => absurd e (by decide), fun e => absurd e (by decide)⟩
    · obtain ⟨gq, e7, hbq⟩ := (hd (10, 7) (by simp) rfl).1 rfl
      simp only at e7
      simp only [TP, List.foldl_cons, List.foldl_nil, List.setIfInBounds_toArray, List.set_cons_zero, List.set_cons_succ] at hK ⊢
      rw [e7] at hK ⊢
      have HK := Lib.hid hK
      clear hK hd e7
      refine ⟨_, rfl, by kernel_rfl, ?_⟩
      go_simp
      try simp only [Act.put, List.getElem_toArray, List.getElem_cons_zero, List.getElem_cons_succ, List.setIfInBounds_toArray, List.set_cons_zero, List.set_cons_succ]
      exact HK.out _ _ (G.rf W) ⟨fun e => absurd e (by decide), fun _ => ⟨gq, rfl, hbq⟩, fun e => absurd e (by decide)⟩
    · simp only [TP, List.foldl_cons, List.foldl_nil, List.setIfInBounds_toArray, List.set_cons_zero, List.set_cons_succ] at hK ⊢
      have HK := Lib.hid hK
      clear hK hd
      refine ⟨_, rfl, by kernel_rfl, ?_⟩
      go_simp
      try simp only [Act.put, List.getElem_toArray, List.getElem_cons_zero, List.getElem_cons_succ, List.setIfInBounds_toArray, List.set_cons_zero, List.set_cons_succ]
      exact HK.out _ _ ((G.rf W).a _) ⟨fun e => absurd e (by decide), fun e => absurd e (by decide), fun _ => ⟨_, rfl, Blk.new W 46 _, (gd.t hW).size⟩⟩
  · intro f W hW hf
    obtain ⟨gq', e7, _⟩ := (hf (7, 170) (by simp)).1 rfl
    obtain ⟨gq, e10, hbq⟩ := (hf (10, 173) (by simp)).2.1 rfl
    obtain ⟨n11, e11, hB46, hn11⟩ := (hf (11, 11) (by simp)).2.2 rfl
    simp only at e7 e10 e11
    have hG31 := gd.t hW
    clear hf hS hSk hSd gd
    simp only [TP, List.foldl_cons, List.foldl_nil, List.setIfInBounds_toArray, List.set_cons_zero, List.set_cons_succ]
    rw [e7, e10, e11]
    clear e7 e10 e11
    refine wpAnyY_oneW (i := 12) (by kernel_rfl) rfl (by kernel_rfl) (by kernel_rfl) (fun K12 hK12 => ?_)
    refine wp_store46 n11 11 173 (OLD := #[.int .i64 0, .int .i64 0, .slice none 0 0, .int .i64 0, .slice none 0 0, .int .i64 0, .int .i64 0, .int .i64 0, .slice none 0 0, .int .i64 0, .int .i64 0, .slice none 0 0, .int .i64 0, .int .i64 0, .int .i64 0, .int .i64 0, .int .i64 0]) (REL := relS north wrong cn ln px py sl sh ea east.length ec sa svs.length sc gq) ⟨_, _, _, _, _, _, _, _, _, _, _, _, _, _, _, _, _, _, _, _, _, _, _, _, _, rfl⟩ relS_is rfl rfl rfl hB46 fun W2 hB2 hF2 hG2 => ?_
    refine hK12.out _ _ ?_
    try simp only [Act.put, List.getElem_toArray, List.getElem_cons_zero, List.getElem_cons_succ, List.setIfInBounds_toArray, List.set_cons_zero, List.set_cons_succ]
    refine wpAnyY_done (by kernel_rfl) ?_ _
    replace hbq := hbq.apart hB46 (by decide) hF2
    have hG1 := hG2 w31 hn11 hG31
    clear hF2 hG2 hK12 hB46 hG31
    replace b1 := b1.keep hG1; replace bS := bS.keep hG1; replace g0 := g0.t hG1
    clear b0 hG1 hn11
    have a2 := b1.cell 2
    have lN := b1.lt
    go_upto_region 11 with fail
    refine wp_region_lit ?_
    refine wpList_load46 n11 11 rfl relS_is rfl rfl hB2 ?_
    try simp only [Act.put, List.getElem_toArray, List.getElem_cons_zero, List.getElem_cons_succ, List.setIfInBounds_toArray, List.set_cons_zero, List.set_cons_succ]
    have HQ1 := Lib.hid (HPS.out _ g0 gq hbq)
    clear HPS
    obtain ⟨REL, hREL⟩ : ∃ REL, REL = relS north wrong cn ln px py sl sh ea east.length ec sa svs.length sc gq := ⟨_, rfl⟩
    have HREL := Lib.hid hREL
    have hIs : IsRel REL := by rw [hREL]; exact relS_is
    rw [← hREL] at hB2 HQ1 ⊢
    clear hREL
    go_wp2_with fail
    refine HQ1.out.mono ?_
    rintro e w40 ⟨v1, rfl, hown1, hG1⟩
    obtain ⟨g1, c1, cur1, rfl, hb1, hg1, ht1⟩ := own_some hown1 (by omega)
    clear hown1 HQ1 a2 lN
    replace b1 := b1.keep hG1; replace bS := bS.keep hG1; replace hB2 := hB2.keep hG1; replace hbq := hbq.keep hG1; replace g0 := g0.t hG1; clear hG1
    go_upto_region 12 with fail
    refine wp_region_lit ?_
    refine wpList_load46 n11 11 rfl hIs rfl rfl hB2 ?_
    try simp only [Act.put, List.getElem_toArray, List.getElem_cons_zero, List.getElem_cons_succ, List.setIfInBounds_toArray, List.set_cons_zero, List.set_cons_succ]
    refine wpList_plain rfl fun K hK => ?_
    go_simp
    refine hK _ _ ?_
    clear hK
    try simp only [Act.put, List.getElem_toArray, List.getElem_cons_zero, List.getElem_cons_succ, List.setIfInBounds_toArray, List.set_cons_zero, List.set_cons_succ]
    refine wpList_store46 w40.heap.size 14 181 rfl (OLD := #[.int .i64 0, .int .i64 0, .slice none 0 0, .int .i64 0, .slice none 0 0, .int .i64 0, .int .i64 0, .int .i64 0, .slice none 0 0, .int .i64 0, .int .i64 0, .slice none 0 0, .int .i64 0, .int .i64 0, .int .i64 0, .int .i64 0, .int .i64 0]) (REL := REL) ⟨_, _, _, _, _, _, _, _, _, _, _, _, _, _, _, _, _, _, _, _, _, _, _, _, _, rfl⟩ hIs rfl rfl rfl (Blk.new w40 46 _) fun W3 hB3 hF3 hG3 => ?_
    try simp only [Act.put, List.getElem_toArray, List.getElem_cons_zero, List.getElem_cons_succ, List.setIfInBounds_toArray, List.set_cons_zero, List.set_cons_succ]
    have hG1 := hG3 w40 (Nat.le_refl _) ((G.rf w40).a _)
    obtain ⟨n14, hn14⟩ : ∃ n, n = w40.heap.size := ⟨_, rfl⟩
    rw [← hn14] at hB3 ⊢
    have hge : w40.heap.size ≤ n14 := Nat.le_of_eq hn14.symm
    clear hB2 hF3 hG3 hn14
    go_upto_region 13 with fail
    have q4 := hB3.cell 4
    have f4 := hB3.frozen 4
    have l4 := hB3.lt
    rw [HREL.out] at q4
    have q4' : W3.cell? ⟨n14, 4, none⟩ = some (.slice sa svs.length sc) := q4
    clear q4
    go_upto_region 14 with fail
    clear q4' f4 l4
    have hB4 := hB3.set_ 4 (.slice none 0 0)
    rw [HREL.out] at hB4
    replace hB4 : Blk (W3.setCell ⟨n14, 4, none⟩ (.slice none 0 0)) n14 46 (relS north wrong cn ln px py sl sh ea east.length ec none 0 0 gq) := hB4
    replace hG1 := hG1.s (p := ⟨n14, 4, none⟩) hge (.slice none 0 0)
    replace b1 := b1.keep hG1; replace bS := bS.keep hG1; replace hbq := hbq.keep hG1; replace hb1 := hb1.keep hG1; replace g0 := g0.t hG1
    clear hB3 hG1 hge
    generalize W3.setCell ⟨n14, 4, none⟩ (.slice none 0 0) = W4 at *
    have HQ2 := Lib.hid (HPS2.out _ g0 gq hbq)
    clear HPS2 hbq
    have hIs2 : IsRel (relS north wrong cn ln px py sl sh ea east.length ec none 0 0 gq) := relS_is
    refine wp_region_lit ?_
    refine wpList_load46 n14 14 rfl hIs2 rfl rfl hB4 ?_
    try simp only [Act.put, List.getElem_toArray, List.getElem_cons_zero, List.getElem_cons_succ, List.setIfInBounds_toArray, List.set_cons_zero, List.set_cons_succ]
    simp only [List.length_nil] at HQ2
    generalize relS north wrong cn ln px py sl sh ea east.length ec none 0 0 gq = REL2 at *
    have a2 := b1.cell 2
    have lN := b1.lt
    go_wp2_with fail
    refine HQ2.out.mono ?_
    rintro e w50 ⟨v2, rfl, hown2, hG1⟩
    obtain ⟨g2, c2, cur2, rfl, hb2, hg2, ht2⟩ := own_some hown2 (by omega)
    clear hown2 HQ2 a2 lN hB4 hIs hIs2 HREL
    replace b1 := b1.keep hG1; replace bS := bS.keep hG1; replace hb1 := hb1.keep hG1; replace g0 := g0.t hG1; clear hG1
    have s0 := bS.cell 0
    have s1 := bS.cell 1
    have lS := bS.lt
    have hD8 : ¬ (100000000 : Int) < D := by omega
    have hn0 : ((n1 : Int) == 0) = false := by simp; omega
    have hn20 : ¬ (20 : Int) < n1 := by omega
    go_wp2_with fail
    clear s0 s1 lS hD8 hn0 hn20
    go_loopw [17] (fun i wr => ∃ k : Nat, k ≤ n1 ∧ i = .int .i64 k ∧ G w50 wr) (fun i _ => n1 - (intOf i).toNat)
    case atStart => exact ⟨0, Nat.zero_le _, rfl, G.rf _⟩
    case round =>
      obtain ⟨k, hk, rfl, hGr⟩ := hrel
      obtain ⟨wo, rfl⟩ : ∃ wo, wo = wr := ⟨_, rfl⟩
      by_cases hlt : k < n1
      · have hki : (k : Int) < n1 := by omega
        have x5 : IntKind.i64.wrap ((k : Int) + 1) = ((k + 1 : Nat) : Int) := by rw [IntWalk.i64_in _ (by omega)]; rfl
        have p0 := take_cell hb1 ht1 (k := k * 2) (by omega) (HGET.out k hlt 0 (by omega))
        have p1 := take_cell hb1 ht1 (k := k * 2 + 1) (by omega) (HGET.out k hlt 1 (by omega))
        have p2 := take_cell hb2 ht2 (k := k * 2) (by omega) (HGET.out k hlt 0 (by omega))
        have p3 := take_cell hb2 ht2 (k := k * 2 + 1) (by omega) (HGET.out k hlt 1 (by omega))
        obtain ⟨va, hva⟩ : ∃ va : Int, va = (mn : Int) + (lo k : Nat) := ⟨_, rfl⟩
        obtain ⟨vb, hvb⟩ : ∃ vb : Int, vb = (mn : Int) + (hh k : Nat) := ⟨_, rfl⟩
        replace p0 : w50.cell? ⟨g1, k * 2, none⟩ = some (.int .i64 va) := by rw [hva]; exact p0
        replace p1 : w50.cell? ⟨g1, k * 2 + 1, none⟩ = some (.int .i64 vb) := by rw [hvb]; exact p1
        replace p2 : w50.cell? ⟨g2, k * 2, none⟩ = some (.int .i64 va) := by rw [hva]; exact p2
        replace p3 : w50.cell? ⟨g2, k * 2 + 1, none⟩ = some (.int .i64 vb) := by rw [hvb]; exact p3
        clear hva hvb
        have lg1 := hb1.lt
        have hneq : ∀ W : World, (binOp .neq 27 (.agg #[.int .i64 va, .int .i64 vb]) (.agg #[.int .i64 va, .int .i64 vb])).run Try.prog W = .ok (.bool false) W := fun W => by rw [neq46]; simp
        have hSk : ∀ W', G w50 W' → W'.cell? ⟨g1, k * 2, none⟩ = some (.int .i64 va) ∧ W'.cell? ⟨g1, k * 2 + 1, none⟩ = some (.int .i64 vb) ∧ W'.cell? ⟨g2, k * 2, none⟩ = some (.int .i64 va) ∧ W'.cell? ⟨g2, k * 2 + 1, none⟩ = some (.int .i64 vb) := fun W' hW => ⟨((bcellB hW).1 _ _ lg1).trans p0, ((bcellB hW).1 _ _ lg1).trans p1, ((bcellB hW).1 _ _ hg2).trans p2, ((bcellB hW).1 _ _ hg2).trans p3⟩
        clear p0 p1 p2 p3 HGET HLO HHI
        go_wp2_with fail
        refine wp_region_Y (S := fun W' => W'.cell? ⟨g1, k * 2, none⟩ = some (.int .i64 va) ∧ W'.cell? ⟨g1, k * 2 + 1, none⟩ = some (.int .i64 vb) ∧ W'.cell? ⟨g2, k * 2, none⟩ = some (.int .i64 va) ∧ W'.cell? ⟨g2, k * 2 + 1, none⟩ = some (.int .i64 vb)) 8 9 rfl (by kernel_rfl) (hSk _ hGr.d) (fun hS => ?_)
        refine wpAnyY_take (i := 0) (v := ?_) rfl (by kernel_rfl) (by kernel_rfl) (by kernel_rfl) (by kernel_rfl) (fun _ _ _ h => h) (Or.inl ⟨by kernel_rfl, ?_⟩) hS ?_
        rotate_left
        · intro w' hSw; go_simp; with_reducible rfl
        try simp only [Act.put, List.getElem_toArray, List.getElem_cons_zero, List.getElem_cons_succ, List.setIfInBounds_toArray, List.set_cons_zero, List.set_cons_succ]
        refine wpAnyY_take (i := 1) (v := ?_) rfl (by kernel_rfl) (by kernel_rfl) (by kernel_rfl) (by kernel_rfl) (fun _ _ _ h => h) (Or.inl ⟨by kernel_rfl, ?_⟩) hS ?_
        rotate_left
        · intro w' hSw; go_simp; with_reducible rfl
        try simp only [Act.put, List.getElem_toArray, List.getElem_cons_zero, List.getElem_cons_succ, List.setIfInBounds_toArray, List.set_cons_zero, List.set_cons_succ]
        refine wpAnyY_take (i := 2) (v := ?_) rfl (by kernel_rfl) (by kernel_rfl) (by kernel_rfl) (by kernel_rfl) (fun _ _ _ h => h) (Or.inl ⟨by kernel_rfl, ?_⟩) hS ?_
        rotate_left
        · intro w' hSw; go_simp; with_reducible rfl
        try simp only [Act.put, List.getElem_toArray, List.getElem_cons_zero, List.getElem_cons_succ, List.setIfInBounds_toArray, List.set_cons_zero, List.set_cons_succ]
        refine wpAnyY_take (i := 3) (v := ?_) rfl (by kernel_rfl) (by kernel_rfl) (by kernel_rfl) (by kernel_rfl) (fun _ _ _ h => h) (Or.inl ⟨by kernel_rfl, ?_⟩) hS ?_
        rotate_left
        · intro w' hSw; obtain ⟨y0, y1, y2, y3⟩ := hSw; go_simp; with_reducible rfl
        try simp only [Act.put, List.getElem_toArray, List.getElem_cons_zero, List.getElem_cons_succ, List.setIfInBounds_toArray, List.set_cons_zero, List.set_cons_succ]
        refine wpAnyY_take (i := 4) (v := ?_) rfl (by kernel_rfl) (by kernel_rfl) (by kernel_rfl) (by kernel_rfl) (fun _ _ _ h => h) (Or.inl ⟨by kernel_rfl, ?_⟩) hS ?_
        rotate_left
        · intro w' hSw; go_simp; with_reducible rfl
        try simp only [Act.put, List.getElem_toArray, List.getElem_cons_zero, List.getElem_cons_succ, List.setIfInBounds_toArray, List.set_cons_zero, List.set_cons_succ]
        refine wpAnyY_take (i := 5) (v := ?_) rfl (by kernel_rfl) (by kernel_rfl) (by kernel_rfl) (by kernel_rfl) (fun _ _ _ h => h) (Or.inl ⟨by kernel_rfl, ?_⟩) hS ?_
        rotate_left
        · intro w' hSw; go_simp; with_reducible rfl
        try simp only [Act.put, List.getElem_toArray, List.getElem_cons_zero, List.getElem_cons_succ, List.setIfInBounds_toArray, List.set_cons_zero, List.set_cons_succ]
        refine wpAnyY_take (i := 6) (v := ?_) rfl (by kernel_rfl) (by kernel_rfl) (by kernel_rfl) (by kernel_rfl) (fun _ _ _ h => h) (Or.inl ⟨by kernel_rfl, ?_⟩) hS ?_
        rotate_left
        · intro w' hSw; go_simp; with_reducible rfl
        try simp only [Act.put, List.getElem_toArray, List.getElem_cons_zero, List.getElem_cons_succ, List.setIfInBounds_toArray, List.set_cons_zero, List.set_cons_succ]
        refine wpAnyY_take (i := 7) (v := ?_) rfl (by kernel_rfl) (by kernel_rfl) (by kernel_rfl) (by kernel_rfl) (fun _ _ _ h => h) (Or.inl ⟨by kernel_rfl, ?_⟩) hS ?_
        rotate_left
        · intro w' hSw; obtain ⟨y0, y1, y2, y3⟩ := hSw; go_simp; with_reducible rfl
        try simp only [Act.put, List.getElem_toArray, List.getElem_cons_zero, List.getElem_cons_succ, List.setIfInBounds_toArray, List.set_cons_zero, List.set_cons_succ]
        refine wpAnyY_oneW (i := 8) (by kernel_rfl) rfl (by kernel_rfl) (by kernel_rfl) (fun K8 hK8 => ?_)
        go_simp
        refine hK8.out _ _ ?_
        try simp only [Act.put, List.getElem_toArray, List.getElem_cons_zero, List.getElem_cons_succ, List.setIfInBounds_toArray, List.set_cons_zero, List.set_cons_succ]
        refine wpAnyY_done (by kernel_rfl) ?_ _
        clear hS hSk hK8
        go_wp2_with fail
        go_roundw
        case rel => exact ⟨k + 1, by omega, by go_num, hGr.d⟩
        case measure => simp [intOf]; omega
      · obtain rfl : k = n1 := by omega
        have hki : ¬ (k : Int) < k := by omega
        have hN1 : k = N + 1 := HN1.out
        have lg1 := hb1.lt
        have p0 := take_cell hb1 ht1 (k := N * 2) (by omega) (HGET.out N (by omega) 0 (by omega))
        have p1 := take_cell hb1 ht1 (k := N * 2 + 1) (by omega) (HGET.out N (by omega) 1 (by omega))
        obtain ⟨qa, hqa⟩ : ∃ qa, qa = D / sh := ⟨_, rfl⟩
        obtain ⟨d2, hd2⟩ : ∃ d2, d2 = D + sl - 1 := ⟨_, rfl⟩
        obtain ⟨qb, hqb⟩ : ∃ qb, qb = d2 / sl := ⟨_, rfl⟩
        have eA : lo N = qa := by rw [hqa]; exact HLO.out
        have eB : hh N = qb := by rw [hqb, hd2]; exact HHI.out
        replace p0 : wo.cell? ⟨g1, (k - 1) * 2, none⟩ = some (.int .i64 ((mn : Int) + (qa : Nat))) := by rw [show k - 1 = N by omega, ← eA]; exact ((bcellB hGr).1 _ _ lg1).trans p0
        replace p1 : wo.cell? ⟨g1, (k - 1) * 2 + 1, none⟩ = some (.int .i64 ((mn : Int) + (qb : Nat))) := by rw [show k - 1 = N by omega, ← eB]; exact ((bcellB hGr).1 _ _ lg1).trans p1
        have bA : qa ≤ D := by rw [hqa]; exact Nat.div_le_self _ _
        have bB : qb ≤ d2 := by rw [hqb]; exact Nat.div_le_self _ _
        have xq : IntKind.i64.wrap ((D : Int) / (sh : Int)) = (qa : Int) := by rw [hqa]; exact wrap_div2 D sh (by omega)
        have xd : IntKind.i64.wrap ((d2 : Int) / (sl : Int)) = (qb : Int) := by rw [hqb]; exact wrap_div2 d2 sl (by omega)
        have xa : IntKind.i64.wrap ((mn : Int) + (qa : Int)) = (mn : Int) + (qa : Int) := IntWalk.i64_in _ (by omega)
        have xb : IntKind.i64.wrap ((D : Int) + (sl : Int)) = (D : Int) + (sl : Int) := IntWalk.i64_in _ (by omega)
        have xc : IntKind.i64.wrap ((D : Int) + (sl : Int) - 1) = (d2 : Int) := by rw [IntWalk.i64_in _ (by omega)]; omega
        have xe : IntKind.i64.wrap ((mn : Int) + (qb : Int)) = (mn : Int) + (qb : Int) := IntWalk.i64_in _ (by omega)
        have hsh1 : ¬ sh = 0 := by omega
        have hsl1 : ¬ sl = 0 := by omega
        have hsh0 : ((sh : Int) == 0) = false := by simp; omega
        have hsl0 : ((sl : Int) == 0) = false := by simp; omega
        clear hqa hd2 hqb eA eB HGET HLO HHI HN1 hN1
        replace b1 := b1.keep hGr; replace bS := bS.keep hGr; replace g0 := g0.t hGr
        go_upto_region 23 with fail
        clear p0 p1
        have hG1 : G wo (wo.alloc (.cells #[.int .i64 ((mn : Int) + (qa : Int)), .int .i64 ((mn : Int) + (qb : Int))] 27)) := (G.rf _).a _
        have bL := Blk.new wo 27 #[.int .i64 ((mn : Int) + (qa : Int)), .int .i64 ((mn : Int) + (qb : Int))]
        replace b1 := b1.keep hG1; replace bS := bS.keep hG1; replace g0 := g0.t hG1
        clear hG1 hGr hb1 hb2 ht1 ht2 hg1 hg2
        generalize wo.alloc (.cells #[.int .i64 ((mn : Int) + (qa : Int)), .int .i64 ((mn : Int) + (qb : Int))] 27) = w60 at *
        obtain ⟨nL, hnL⟩ : ∃ n, n = wo.heap.size := ⟨_, rfl⟩
        rw [← hnL] at bL ⊢
        clear hnL
        have hSk : ∀ W', G w60 W' → (W'.cell? ⟨nL, 0, none⟩ = some (.int .i64 ((mn : Int) + (qa : Int))) ∧ W'.cell? ⟨nL, 1, none⟩ = some (.int .i64 ((mn : Int) + (qb : Int))) ∧ W'.cell? ⟨w.heap.size + 1, 2, none⟩ = some (.int .i64 (mn : Nat)) ∧ W'.cell? ⟨w.heap.size + 1, 3, none⟩ = some (.int .i64 (sl : Nat)) ∧ W'.cell? ⟨w.heap.size + 1, 4, none⟩ = some (.int .i64 (sh : Nat)) ∧ W'.cell? ⟨nS, 0, none⟩ = some (.int .i64 (D : Nat))) := fun W' hW => ⟨(bL.keep hW).cell 0, (bL.keep hW).cell 1, (b1.keep hW).cell 2, (b1.keep hW).cell 3, (b1.keep hW).cell 4, (bS.keep hW).cell 0⟩
        have gd := (G.rf w60).d
        refine wp_region_Y (S := fun W' => W'.cell? ⟨nL, 0, none⟩ = some (.int .i64 ((mn : Int) + (qa : Int))) ∧ W'.cell? ⟨nL, 1, none⟩ = some (.int .i64 ((mn : Int) + (qb : Int))) ∧ W'.cell? ⟨w.heap.size + 1, 2, none⟩ = some (.int .i64 (mn : Nat)) ∧ W'.cell? ⟨w.heap.size + 1, 3, none⟩ = some (.int .i64 (sl : Nat)) ∧ W'.cell? ⟨w.heap.size + 1, 4, none⟩ = some (.int .i64 (sh : Nat)) ∧ W'.cell? ⟨nS, 0, none⟩ = some (.int .i64 (D : Nat))) 34 35 rfl (by kernel_rfl) (hSk _ (G.rf _).d) (fun hS => ?_)
        change wpAnyY _ _ ops23 _ _ _ 35 #[false, false, false, false, false, false, false, false, false, false, false, false, false, false, false, false, false, false, false, false, false, false, false, false, false, false, false, false, false, false, false, false, false, false, false] _ _
        refine wpAnyY_takeC (v := ?_) [] r23_0 r23o_0 (fun _ _ _ h => h) (Or.inl ⟨by kernel_rfl, ?_⟩) hS ?_
        rotate_left
        · intro w' hSw; go_simp; with_reducible rfl
        try simp only [Act.put, List.getElem_toArray, List.getElem_cons_zero, List.getElem_cons_succ, List.setIfInBounds_toArray, List.set_cons_zero, List.set_cons_succ]
        refine wpAnyY_takeC (v := ?_) [] r23_1 r23o_1 (fun _ _ _ h => h) (Or.inl ⟨by kernel_rfl, ?_⟩) hS ?_
        rotate_left
        · intro w' hSw; obtain ⟨y0, y1, x2, x3, x4, s0⟩ := hSw; go_simp; with_reducible rfl
        try simp only [Act.put, List.getElem_toArray, List.getElem_cons_zero, List.getElem_cons_succ, List.setIfInBounds_toArray, List.set_cons_zero, List.set_cons_succ]
        refine wpAnyY_takeC (v := ?_) [] r23_2 r23o_2 (fun _ _ _ h => h) (Or.inl ⟨by kernel_rfl, ?_⟩) hS ?_
        rotate_left
        · intro w' hSw; go_simp; with_reducible rfl
        try simp only [Act.put, List.getElem_toArray, List.getElem_cons_zero, List.getElem_cons_succ, List.setIfInBounds_toArray, List.set_cons_zero, List.set_cons_succ]
        refine wpAnyY_takeC (v := ?_) [] r23_3 r23o_3 (fun _ _ _ h => h) (Or.inl ⟨by kernel_rfl, ?_⟩) hS ?_
        rotate_left
        · intro w' hSw; obtain ⟨y0, y1, x2, x3, x4, s0⟩ := hSw; go_simp; with_reducible rfl
        try simp only [Act.put, List.getElem_toArray, List.getElem_cons_zero, List.getElem_cons_succ, List.setIfInBounds_toArray, List.set_cons_zero, List.set_cons_succ]
        refine wpAnyY_takeC (v := ?_) [] r23_4 r23o_4 (fun _ _ _ h => h) (Or.inl ⟨by kernel_rfl, ?_⟩) hS ?_
        rotate_left
        · intro w' hSw; go_simp; with_reducible rfl
        try simp only [Act.put, List.getElem_toArray, List.getElem_cons_zero, List.getElem_cons_succ, List.setIfInBounds_toArray, List.set_cons_zero, List.set_cons_succ]
        refine wpAnyY_takeC (v := ?_) [] r23_5 r23o_5 (fun _ _ _ h => h) (Or.inl ⟨by kernel_rfl, ?_⟩) hS ?_
        rotate_left
        · intro w' hSw; obtain ⟨y0, y1, x2, x3, x4, s0⟩ := hSw; go_simp; with_reducible rfl
        try simp only [Act.put, List.getElem_toArray, List.getElem_cons_zero, List.getElem_cons_succ, List.setIfInBounds_toArray, List.set_cons_zero, List.set_cons_succ]
        refine wpAnyY_takeC (v := ?_) [] r23_6 r23o_6 (fun _ _ _ h => h) (Or.inl ⟨by kernel_rfl, ?_⟩) hS ?_
        rotate_left
        · intro w' hSw; go_simp; with_reducible rfl
        try simp only [Act.put, List.getElem_toArray, List.getElem_cons_zero, List.getElem_cons_succ, List.setIfInBounds_toArray, List.set_cons_zero, List.set_cons_succ]
        refine wpAnyY_takeC (v := ?_) [] r23_7 r23o_7 (fun _ _ _ h => h) (Or.inl ⟨by kernel_rfl, ?_⟩) hS ?_
        rotate_left
        · intro w' hSw; go_simp; with_reducible rfl
        try simp only [Act.put, List.getElem_toArray, List.getElem_cons_zero, List.getElem_cons_succ, List.setIfInBounds_toArray, List.set_cons_zero, List.set_cons_succ]
        refine wpAnyY_takeC (v := ?_) [] r23_8 r23o_8 (fun _ _ _ h => h) (Or.inl ⟨by kernel_rfl, ?_⟩) hS ?_
        rotate_left
        · intro w' hSw; obtain ⟨y0, y1, x2, x3, x4, s0⟩ := hSw; go_simp; with_reducible rfl
        try simp only [Act.put, List.getElem_toArray, List.getElem_cons_zero, List.getElem_cons_succ, List.setIfInBounds_toArray, List.set_cons_zero, List.set_cons_succ]
        refine wpAnyY_takeC (v := ?_) [] r23_9 r23o_9 (fun _ _ _ h => h) (Or.inl ⟨by kernel_rfl, ?_⟩) hS ?_
        rotate_left
        · intro w' hSw; go_simp; with_reducible rfl
        try simp only [Act.put, List.getElem_toArray, List.getElem_cons_zero, List.getElem_cons_succ, List.setIfInBounds_toArray, List.set_cons_zero, List.set_cons_succ]
        refine wpAnyY_takeC (v := ?_) [] r23_10 r23o_10 (fun _ _ _ h => h) (Or.inl ⟨by kernel_rfl, ?_⟩) hS ?_
        rotate_left
        · intro w' hSw; go_simp; with_reducible rfl
        try simp only [Act.put, List.getElem_toArray, List.getElem_cons_zero, List.getElem_cons_succ, List.setIfInBounds_toArray, List.set_cons_zero, List.set_cons_succ]
        refine wpAnyY_takeC (v := ?_) [] r23_11 r23o_11 (fun _ _ _ h => h) (Or.inl ⟨by kernel_rfl, ?_⟩) hS ?_
        rotate_left
        · intro w' hSw; go_simp; with_reducible rfl
        try simp only [Act.put, List.getElem_toArray, List.getElem_cons_zero, List.getElem_cons_succ, List.setIfInBounds_toArray, List.set_cons_zero, List.set_cons_succ]
        refine wpAnyY_takeC (v := ?_) [] r23_12 r23o_12 (fun _ _ _ h => h) (Or.inl ⟨by kernel_rfl, ?_⟩) hS ?_
        rotate_left
        · intro w' hSw; go_simp; with_reducible rfl
        try simp only [Act.put, List.getElem_toArray, List.getElem_cons_zero, List.getElem_cons_succ, List.setIfInBounds_toArray, List.set_cons_zero, List.set_cons_succ]
        refine wpAnyY_takeC (v := ?_) [] r23_13 r23o_13 (fun _ _ _ h => h) (Or.inl ⟨by kernel_rfl, ?_⟩) hS ?_
        rotate_left
        · intro w' hSw; go_simp; with_reducible rfl
        try simp only [Act.put, List.getElem_toArray, List.getElem_cons_zero, List.getElem_cons_succ, List.setIfInBounds_toArray, List.set_cons_zero, List.set_cons_succ]
        refine wpAnyY_takeC (v := ?_) [] r23_14 r23o_14 (fun _ _ _ h => h) (Or.inl ⟨by kernel_rfl, ?_⟩) hS ?_
        rotate_left
        · intro w' hSw; obtain ⟨y0, y1, x2, x3, x4, s0⟩ := hSw; go_simp; with_reducible rfl
        try simp only [Act.put, List.getElem_toArray, List.getElem_cons_zero, List.getElem_cons_succ, List.setIfInBounds_toArray, List.set_cons_zero, List.set_cons_succ]
        refine wpAnyY_takeC (v := ?_) [] r23_15 r23o_15 (fun _ _ _ h => h) (Or.inl ⟨by kernel_rfl, ?_⟩) hS ?_
        rotate_left
        · intro w' hSw; go_simp; with_reducible rfl
        try simp only [Act.put, List.getElem_toArray, List.getElem_cons_zero, List.getElem_cons_succ, List.setIfInBounds_toArray, List.set_cons_zero, List.set_cons_succ]
        refine wpAnyY_takeC (v := ?_) [] r23_16 r23o_16 (fun _ _ _ h => h) (Or.inl ⟨by kernel_rfl, ?_⟩) hS ?_
        rotate_left
        · intro w' hSw; obtain ⟨y0, y1, x2, x3, x4, s0⟩ := hSw; go_simp; with_reducible rfl
        try simp only [Act.put, List.getElem_toArray, List.getElem_cons_zero, List.getElem_cons_succ, List.setIfInBounds_toArray, List.set_cons_zero, List.set_cons_succ]
        refine wpAnyY_takeC (v := ?_) [] r23_17 r23o_17 (fun _ _ _ h => h) (Or.inl ⟨by kernel_rfl, ?_⟩) hS ?_
        rotate_left
        · intro w' hSw; go_simp; with_reducible rfl
        try simp only [Act.put, List.getElem_toArray, List.getElem_cons_zero, List.getElem_cons_succ, List.setIfInBounds_toArray, List.set_cons_zero, List.set_cons_succ]
        refine wpAnyY_takeC (v := ?_) [] r23_18 r23o_18 (fun _ _ _ h => h) (Or.inl ⟨by kernel_rfl, ?_⟩) hS ?_
        rotate_left
        · intro w' hSw; obtain ⟨y0, y1, x2, x3, x4, s0⟩ := hSw; go_simp; with_reducible rfl
        try simp only [Act.put, List.getElem_toArray, List.getElem_cons_zero, List.getElem_cons_succ, List.setIfInBounds_toArray, List.set_cons_zero, List.set_cons_succ]
        refine wpAnyY_takeC (v := ?_) [] r23_19 r23o_19 (fun _ _ _ h => h) (Or.inl ⟨by kernel_rfl, ?_⟩) hS ?_
        rotate_left
        · intro w' hSw; go_simp; with_reducible rfl
        try simp only [Act.put, List.getElem_toArray, List.getElem_cons_zero, List.getElem_cons_succ, List.setIfInBounds_toArray, List.set_cons_zero, List.set_cons_succ]
        refine wpAnyY_takeC (v := ?_) [] r23_20 r23o_20 (fun _ _ _ h => h) (Or.inl ⟨by kernel_rfl, ?_⟩) hS ?_
        rotate_left
        · intro w' hSw; go_simp; with_reducible rfl
        try simp only [Act.put, List.getElem_toArray, List.getElem_cons_zero, List.getElem_cons_succ, List.setIfInBounds_toArray, List.set_cons_zero, List.set_cons_succ]
        refine wpAnyY_takeC (v := ?_) [] r23_21 r23o_21 (fun _ _ _ h => h) (Or.inl ⟨by kernel_rfl, ?_⟩) hS ?_
        rotate_left
        · intro w' hSw; obtain ⟨y0, y1, x2, x3, x4, s0⟩ := hSw; go_simp; with_reducible rfl
        try simp only [Act.put, List.getElem_toArray, List.getElem_cons_zero, List.getElem_cons_succ, List.setIfInBounds_toArray, List.set_cons_zero, List.set_cons_succ]
        refine wpAnyY_takeC (v := ?_) [] r23_22 r23o_22 (fun _ _ _ h => h) (Or.inl ⟨by kernel_rfl, ?_⟩) hS ?_
        rotate_left
        · intro w' hSw; go_simp; with_reducible rfl
        try simp only [Act.put, List.getElem_toArray, List.getElem_cons_zero, List.getElem_cons_succ, List.setIfInBounds_toArray, List.set_cons_zero, List.set_cons_succ]
        refine wpAnyY_takeC (v := ?_) [] r23_23 r23o_23 (fun _ _ _ h => h) (Or.inl ⟨by kernel_rfl, ?_⟩) hS ?_
        rotate_left
        · intro w' hSw; go_simp; with_reducible rfl
        try simp only [Act.put, List.getElem_toArray, List.getElem_cons_zero, List.getElem_cons_succ, List.setIfInBounds_toArray, List.set_cons_zero, List.set_cons_succ]
        refine wpAnyY_takeC (v := ?_) [] r23_24 r23o_24 (fun _ _ _ h => h) (Or.inl ⟨by kernel_rfl, ?_⟩) hS ?_
        rotate_left
        · intro w' hSw; go_simp; with_reducible rfl
        try simp only [Act.put, List.getElem_toArray, List.getElem_cons_zero, List.getElem_cons_succ, List.setIfInBounds_toArray, List.set_cons_zero, List.set_cons_succ]
        refine wpAnyY_takeC (v := ?_) [] r23_25 r23o_25 (fun _ _ _ h => h) (Or.inl ⟨by kernel_rfl, ?_⟩) hS ?_
        rotate_left
        · intro w' hSw; go_simp; with_reducible rfl
        try simp only [Act.put, List.getElem_toArray, List.getElem_cons_zero, List.getElem_cons_succ, List.setIfInBounds_toArray, List.set_cons_zero, List.set_cons_succ]
        refine wpAnyY_takeC (v := ?_) [] r23_26 r23o_26 (fun _ _ _ h => h) (Or.inl ⟨by kernel_rfl, ?_⟩) hS ?_
        rotate_left
        · intro w' hSw; obtain ⟨y0, y1, x2, x3, x4, s0⟩ := hSw; go_simp; with_reducible rfl
        try simp only [Act.put, List.getElem_toArray, List.getElem_cons_zero, List.getElem_cons_succ, List.setIfInBounds_toArray, List.set_cons_zero, List.set_cons_succ]
        refine wpAnyY_takeC (v := ?_) [] r23_27 r23o_27 (fun _ _ _ h => h) (Or.inl ⟨by kernel_rfl, ?_⟩) hS ?_
        rotate_left
        · intro w' hSw; go_simp; with_reducible rfl
        try simp only [Act.put, List.getElem_toArray, List.getElem_cons_zero, List.getElem_cons_succ, List.setIfInBounds_toArray, List.set_cons_zero, List.set_cons_succ]
        refine wpAnyY_takeC (v := ?_) [] r23_28 r23o_28 (fun _ _ _ h => h) (Or.inl ⟨by kernel_rfl, ?_⟩) hS ?_
        rotate_left
        · intro w' hSw; go_simp; with_reducible rfl
        try simp only [Act.put, List.getElem_toArray, List.getElem_cons_zero, List.getElem_cons_succ, List.setIfInBounds_toArray, List.set_cons_zero, List.set_cons_succ]
        refine wpAnyY_takeC (v := ?_) [] r23_29 r23o_29 (fun _ _ _ h => h) (Or.inl ⟨by kernel_rfl, ?_⟩) hS ?_
        rotate_left
        · intro w' hSw; go_simp; with_reducible rfl
        try simp only [Act.put, List.getElem_toArray, List.getElem_cons_zero, List.getElem_cons_succ, List.setIfInBounds_toArray, List.set_cons_zero, List.set_cons_succ]
        refine wpAnyY_takeC (v := ?_) [] r23_30 r23o_30 (fun _ _ _ h => h) (Or.inl ⟨by kernel_rfl, ?_⟩) hS ?_
        rotate_left
        · intro w' hSw; go_simp; with_reducible rfl
        try simp only [Act.put, List.getElem_toArray, List.getElem_cons_zero, List.getElem_cons_succ, List.setIfInBounds_toArray, List.set_cons_zero, List.set_cons_succ]
        refine wpAnyY_takeC (v := ?_) [] r23_31 r23o_31 (fun _ _ _ h => h) (Or.inl ⟨by kernel_rfl, ?_⟩) hS ?_
        rotate_left
        · intro w' hSw; go_simp; with_reducible rfl
        try simp only [Act.put, List.getElem_toArray, List.getElem_cons_zero, List.getElem_cons_succ, List.setIfInBounds_toArray, List.set_cons_zero, List.set_cons_succ]
        refine wpAnyY_oneSWC r23_32 r23o_32 (by kernel_rfl) (fun K32 hK32 => ?_)
        go_simp
        refine (HFr.out _).mono ?_
        rintro e w61 ⟨rfl, hGr⟩
        replace gd := gd.t hGr
        refine hK32.out _ _ (hSk _ gd) (fun hS => ?_)
        clear hGr hK32
        try simp only [Act.put, List.getElem_toArray, List.getElem_cons_zero, List.getElem_cons_succ, List.setIfInBounds_toArray, List.set_cons_zero, List.set_cons_succ]
        refine wpAnyY_takeC (v := ?_) [] r23_33 r23o_33 (fun _ _ _ h => h) (Or.inl ⟨by kernel_rfl, ?_⟩) hS ?_
        rotate_left
        · intro w' hSw; go_simp; with_reducible rfl
        try simp only [Act.put, List.getElem_toArray, List.getElem_cons_zero, List.getElem_cons_succ, List.setIfInBounds_toArray, List.set_cons_zero, List.set_cons_succ]
        refine wpAnyY_oneW (i := 34) (by kernel_rfl) r23o_34 (by kernel_rfl) (by kernel_rfl) (fun K34 hK34 => ?_)
        go_simp
        refine hK34.out _ _ ?_
        try simp only [Act.put, List.getElem_toArray, List.getElem_cons_zero, List.getElem_cons_succ, List.setIfInBounds_toArray, List.set_cons_zero, List.set_cons_succ]
        refine wpAnyY_done (by kernel_rfl) ?_ _
        clear hS
        replace g0 := g0.t gd
        go_wp2_with fail
        go_ret
        exact ⟨rfl, g0⟩
end
end Go.Proofs.Ytdneehbhncekaaa
