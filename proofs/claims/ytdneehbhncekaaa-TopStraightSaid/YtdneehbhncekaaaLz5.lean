import Derived.Test.YtdneehbhncekaaaLy
import Derived.Test.YtdneehbhncekaaaLza
set_option linter.unusedSimpArgs false
set_option linter.unusedVariables false
namespace Go.Proofs.Ytdneehbhncekaaa
open Go.RowKit
attribute [local go_sem] Oper.semAt_some
section
variable (north wrong : Int) (cn ln an bn mn sl sh px py qx qy : Nat) (east : List Int) (svs : List Sv) (ea sa : Option Addr) (ec sc : Nat) (w : World)
set_option maxRecDepth 100000 in
set_option maxHeartbeats 16000000 in
theorem st_off (he : IntsAt w ea east) (hs : SvsAt w sa svs) (hl : east.length ≤ 9223372036854775807) (hl2 : svs.length ≤ 9223372036854775807) (t1 : farB north cn east ln svs wrong = false) (t2 : checkE north cn east ln svs wrong = 0) (ha : an < ln) (hb : bn < ln) (hm : mn ≤ 9999) (hsl : 1 ≤ sl) (hsh : sl ≤ sh) (hsh2 : sh ≤ 3000000) (hw : ¬ wrong < fewSum north cn east svs ln) (f g : At) (hLA : truthsOf (spotsOf north cn east svs) [an] (wrong - fewSum north cn east svs ln) = [f]) (hLB : truthsOf (spotsOf north cn east svs) [bn] (wrong - fewSum north cn east svs ln) = [g]) (hf : f an = (px, py)) (hg : g bn = (qx, qy)) (hx : px ≠ qx) (hy : py ≠ qy) : StGoal north cn ln wrong an bn mn sl sh east svs ea sa ec sc w := by
  obtain ⟨g0, b0, b1⟩ := w2_spec w #[.int .i64 north, .int .i64 (cn : Nat), .slice ea east.length ec, .int .i64 (ln : Nat), .slice sa svs.length sc, .int .i64 wrong] #[.int .i64 (an : Nat), .int .i64 (bn : Nat), .int .i64 (mn : Nat), .int .i64 (sl : Nat), .int .i64 (sh : Nat)] 25 29
  have HFr := Lib.hid (fun W : World => freed_any W)
  have HF := Lib.hid (fun (W : World) (hW : G w W) => Far_any north cn ln wrong east svs ea sa ec sc W (he.below hW) (hs.below hW) hl hl2)
  have HC := Lib.hid (fun (W : World) (hW : G w W) => rCheck_any north cn ln wrong east svs ea sa ec sc W (he.below hW) (hs.below hW) hl hl2)
  have hvb := vm_bounds (checkE_ok t2)
  have hPin := truth_in (l := an) (by rw [hLA]; exact List.mem_singleton.2 rfl : f ∈ _)
  have hQin := truth_in (l := bn) (by rw [hLB]; exact List.mem_singleton.2 rfl : g ∈ _)
  rw [hf] at hPin
  rw [hg] at hQin
  replace hPin : px < cn ∧ py < east.length := hPin
  replace hQin : qx < cn ∧ qy < east.length := hQin
  have hPa : ∀ (W : World), G w W → Calls Try.prog 7 #[.agg #[.int .i64 north, .int .i64 (cn : Nat), .slice ea east.length ec, .int .i64 (ln : Nat), .slice sa svs.length sc, .int .i64 wrong], .int .i64 (an : Nat)] W fun e w' => ∃ v, e = .returned (.tuple #[v, .int .i64 0]) ∧ w'.ownsRow W.heap.size 39 2 v 1 [.int .i64 (px : Nat), .int .i64 (py : Nat)] ∧ G W w' := fun W hW => by
    have h := Places_ok north wrong cn ln an east svs ea sa ec sc W (he.below hW) (hs.below hW) t2 ha hw (by rw [hLA]; simp)
    unfold PlacesPost at h
    rw [hLA] at h
    have e : ptCells an [f] = [.int .i64 (px : Nat), .int .i64 (py : Nat)] := by simp [ptCells, hf]
    rw [e] at h
    exact h
  have hPb : ∀ (W : World), G w W → Calls Try.prog 7 #[.agg #[.int .i64 north, .int .i64 (cn : Nat), .slice ea east.length ec, .int .i64 (ln : Nat), .slice sa svs.length sc, .int .i64 wrong], .int .i64 (bn : Nat)] W fun e w' => ∃ v, e = .returned (.tuple #[v, .int .i64 0]) ∧ w'.ownsRow W.heap.size 39 2 v 1 [.int .i64 (qx : Nat), .int .i64 (qy : Nat)] ∧ G W w' := fun W hW => by
    have h := Places_ok north wrong cn ln bn east svs ea sa ec sc W (he.below hW) (hs.below hW) t2 hb hw (by rw [hLB]; simp)
    unfold PlacesPost at h
    rw [hLB] at h
    have e : ptCells bn [g] = [.int .i64 (qx : Nat), .int .i64 (qy : Nat)] := by simp [ptCells, hg]
    rw [e] at h
    exact h
  have hI1 := fun W : World => rPlace_any north cn ln wrong px py ea east.length ec (.slice sa svs.length sc) W (by omega) hl
  have hI2 := fun W : World => rPlace_any north cn ln wrong qx qy ea east.length ec (.slice sa svs.length sc) W (by omega) hl
  rw [plB hPin.1 hPin.2] at hI1
  rw [plB hQin.1 hQin.2] at hI2
  have HPa := Lib.hid hPa
  have HPb := Lib.hid hPb
  have HI1 := Lib.hid hI1
  have HI2 := Lib.hid hI2
  clear hPa hPb hI1 hI2
  have hxb : ((px : Int) != qx) = true := by simp; omega
  have hyb : ((py : Int) != qy) = true := by simp; omega
  have u1 : ¬ (ln : Int) ≤ an := by omega
  have u2 : ¬ (ln : Int) ≤ bn := by omega
  have u3 : ¬ (9999 : Int) < mn := by omega
  have u4 : ¬ (sl : Int) < 1 := by omega
  have u5 : ¬ (sh : Int) < sl := by omega
  have u6 : ¬ (3000000 : Int) < sh := by omega
  rw [t1] at HF
  rw [t2] at HC
  clear he hs hl hl2 t1 t2 ha hb hm hsl hsh hsh2 hw hLA hLB hf hg hx hy hvb hPin hQin
  unfold StGoal
  go_enter Try.func3, Try.ntmps3
  go_wp2_with (first | (go_at_call 4; refine (HF.out _ g0).mono ?_; rintro e w1 ⟨rfl, hG1⟩; replace b0 := b0.keep hG1; replace b1 := b1.keep hG1; have m0 := b0.cell 0; have m1 := b0.cell 1; have m2 := b0.cell 2; have m3 := b0.cell 3; have m4 := b0.cell 4; have m5 := b0.cell 5; have a0 := b1.cell 0; have a1 := b1.cell 1; have a2 := b1.cell 2; have a3 := b1.cell 3; have a4 := b1.cell 4; have lM := b0.lt; have lN := b1.lt; replace g0 := g0.t hG1; clear hG1) | (go_at_call 5; refine (HC.out _ g0).mono ?_; rintro e w1 ⟨rfl, hG1⟩; clear m0 m1 m2 m3 m4 m5 a0 a1 a2 a3 a4 lM lN; replace b0 := b0.keep hG1; replace b1 := b1.keep hG1; have m0 := b0.cell 0; have m1 := b0.cell 1; have m2 := b0.cell 2; have m3 := b0.cell 3; have m4 := b0.cell 4; have m5 := b0.cell 5; have a0 := b1.cell 0; have a1 := b1.cell 1; have a2 := b1.cell 2; have a3 := b1.cell 3; have a4 := b1.cell 4; have lM := b0.lt; have lN := b1.lt; replace g0 := g0.t hG1; clear hG1))
  refine (HPa.out _ g0).mono ?_
  rintro e w3 ⟨vP, rfl, hPo, hG1⟩
  obtain ⟨gP, cP, curP, rfl, hbP, hgP, htP⟩ := own_some hPo (by omega)
  have z0 := take_cell hbP htP (k := 0) (by omega) rfl
  have z1 := take_cell hbP htP (k := 1) (by omega) rfl
  clear hPo hbP htP
  clear m0 m1 m2 m3 m4 m5 a0 a1 a2 a3 a4 lM lN; replace b0 := b0.keep hG1; replace b1 := b1.keep hG1; have m0 := b0.cell 0; have m1 := b0.cell 1; have m2 := b0.cell 2; have m3 := b0.cell 3; have m4 := b0.cell 4; have m5 := b0.cell 5; have a0 := b1.cell 0; have a1 := b1.cell 1; have a2 := b1.cell 2; have a3 := b1.cell 3; have a4 := b1.cell 4; have lM := b0.lt; have lN := b1.lt; replace g0 := g0.t hG1; clear hG1
  go_wp2_with fail
  refine (HPb.out _ g0).mono ?_
  rintro e w4 ⟨vQ, rfl, hQo, hG1⟩
  obtain ⟨gQ, cQ, curQ, rfl, hbQ, hgQ, htQ⟩ := own_some hQo (by omega)
  have z2 := take_cell hbQ htQ (k := 0) (by omega) rfl
  have z3 := take_cell hbQ htQ (k := 1) (by omega) rfl
  replace z0 := ((bcellB hG1).1 gP _ hgP).trans z0
  replace z1 := ((bcellB hG1).1 gP _ hgP).trans z1
  replace hgP := Nat.lt_of_lt_of_le hgP hG1.size
  clear hQo hbQ htQ
  clear m0 m1 m2 m3 m4 m5 a0 a1 a2 a3 a4 lM lN; replace b0 := b0.keep hG1; replace b1 := b1.keep hG1; have m0 := b0.cell 0; have m1 := b0.cell 1; have m2 := b0.cell 2; have m3 := b0.cell 3; have m4 := b0.cell 4; have m5 := b0.cell 5; have a0 := b1.cell 0; have a1 := b1.cell 1; have a2 := b1.cell 2; have a3 := b1.cell 3; have a4 := b1.cell 4; have lM := b0.lt; have lN := b1.lt; replace g0 := g0.t hG1; clear hG1
  go_wp2_with fail
  clear m0 m1 m2 m3 m4 m5 a0 a1 a2 a3 a4 lM lN
  clear HPa HPb HF HC u1 u2 u3 u4 u5 u6
  have hSk : ∀ W', G w4 W' → W'.cell? ⟨w.heap.size, 0, none⟩ = some (.int .i64 north) ∧ W'.cell? ⟨w.heap.size, 1, none⟩ = some (.int .i64 (cn : Nat)) ∧ W'.cell? ⟨w.heap.size, 2, none⟩ = some (.slice ea east.length ec) ∧ W'.cell? ⟨w.heap.size, 3, none⟩ = some (.int .i64 (ln : Nat)) ∧ W'.cell? ⟨w.heap.size, 4, none⟩ = some (.slice sa svs.length sc) ∧ W'.cell? ⟨w.heap.size, 5, none⟩ = some (.int .i64 wrong) ∧ W'.cell? ⟨gP, 0, none⟩ = some (.int .i64 (px : Nat)) ∧ W'.cell? ⟨gP, 1, none⟩ = some (.int .i64 (py : Nat)) ∧ W'.cell? ⟨gQ, 0, none⟩ = some (.int .i64 (qx : Nat)) ∧ W'.cell? ⟨gQ, 1, none⟩ = some (.int .i64 (qy : Nat)) := fun W' hW => ⟨(b0.keep hW).cell 0, (b0.keep hW).cell 1, (b0.keep hW).cell 2, (b0.keep hW).cell 3, (b0.keep hW).cell 4, (b0.keep hW).cell 5, ((bcellB hW).1 gP _ hgP).trans z0, ((bcellB hW).1 gP _ hgP).trans z1, ((bcellB hW).1 gQ _ hgQ).trans z2, ((bcellB hW).1 gQ _ hgQ).trans z3⟩
  have gd := (G.rf w4).d
  refine wp_region_Y (S := fun W' => W'.cell? ⟨w.heap.size, 0, none⟩ = some (.int .i64 north) ∧ W'.cell? ⟨w.heap.size, 1, none⟩ = some (.int .i64 (cn : Nat)) ∧ W'.cell? ⟨w.heap.size, 2, none⟩ = some (.slice ea east.length ec) ∧ W'.cell? ⟨w.heap.size, 3, none⟩ = some (.int .i64 (ln : Nat)) ∧ W'.cell? ⟨w.heap.size, 4, none⟩ = some (.slice sa svs.length sc) ∧ W'.cell? ⟨w.heap.size, 5, none⟩ = some (.int .i64 wrong) ∧ W'.cell? ⟨gP, 0, none⟩ = some (.int .i64 (px : Nat)) ∧ W'.cell? ⟨gP, 1, none⟩ = some (.int .i64 (py : Nat)) ∧ W'.cell? ⟨gQ, 0, none⟩ = some (.int .i64 (qx : Nat)) ∧ W'.cell? ⟨gQ, 1, none⟩ = some (.int .i64 (qy : Nat))) 45 46 rfl (by kernel_rfl) (hSk _ (G.rf _).d) (fun hS => ?_)
  change wpAnyY _ _ ops7 _ _ _ 46 #[false, false, false, false, false, false, false, false, false, false, false, false, false, false, false, false, false, false, false, false, false, false, false, false, false, false, false, false, false, false, false, false, false, false, false, false, false, false, false, false, false, false, false, false, false, false] _ _
  refine wpAnyY_takeC (v := ?_) [24, 23, 16, 15, 8, 3, 2, 1] r7_0 r7o_0 (fun _ _ _ h => h) (Or.inl ⟨by kernel_rfl, ?_⟩) hS ?_
  rotate_left
  · intro w' hSw; go_simp; with_reducible rfl
  try simp only [Act.put, List.getElem_toArray, List.getElem_cons_zero, List.getElem_cons_succ, List.setIfInBounds_toArray, List.set_cons_zero, List.set_cons_succ]
  refine wpAnyY_takeC (v := ?_) [24, 23, 16, 15, 8, 3, 2] r7_1 r7o_1 (fun _ _ _ h => h) (Or.inl ⟨by kernel_rfl, ?_⟩) hS ?_
  rotate_left
  · intro w' hSw; go_simp; with_reducible rfl
  try simp only [Act.put, List.getElem_toArray, List.getElem_cons_zero, List.getElem_cons_succ, List.setIfInBounds_toArray, List.set_cons_zero, List.set_cons_succ]
  refine wpAnyY_takeC (v := ?_) [24, 23, 16, 15, 8, 3] r7_2 r7o_2 (fun _ _ _ h => h) (Or.inl ⟨by kernel_rfl, ?_⟩) hS ?_
  rotate_left
  · intro w' hSw; go_simp; with_reducible rfl
  try simp only [Act.put, List.getElem_toArray, List.getElem_cons_zero, List.getElem_cons_succ, List.setIfInBounds_toArray, List.set_cons_zero, List.set_cons_succ]
  refine wpAnyY_takeC (v := ?_) [24, 23, 16, 15, 8] r7_3 r7o_3 (fun _ _ _ h => h) (Or.inl ⟨by kernel_rfl, ?_⟩) hS ?_
  rotate_left
  · intro w' hSw; go_simp; with_reducible rfl
  try simp only [Act.put, List.getElem_toArray, List.getElem_cons_zero, List.getElem_cons_succ, List.setIfInBounds_toArray, List.set_cons_zero, List.set_cons_succ]
  refine wpAnyY_takeC (v := ?_) [24, 23, 16, 15, 8, 7, 6, 5] r7_4 r7o_4 (fun _ _ _ h => h) (Or.inl ⟨by kernel_rfl, ?_⟩) hS ?_
  rotate_left
  · intro w' hSw; go_simp; with_reducible rfl
  try simp only [Act.put, List.getElem_toArray, List.getElem_cons_zero, List.getElem_cons_succ, List.setIfInBounds_toArray, List.set_cons_zero, List.set_cons_succ]
  refine wpAnyY_takeC (v := ?_) [24, 23, 16, 15, 8, 7, 6] r7_5 r7o_5 (fun _ _ _ h => h) (Or.inl ⟨by kernel_rfl, ?_⟩) hS ?_
  rotate_left
  · intro w' hSw; go_simp; with_reducible rfl
  try simp only [Act.put, List.getElem_toArray, List.getElem_cons_zero, List.getElem_cons_succ, List.setIfInBounds_toArray, List.set_cons_zero, List.set_cons_succ]
  refine wpAnyY_takeC (v := ?_) [24, 23, 16, 15, 8, 7] r7_6 r7o_6 (fun _ _ _ h => h) (Or.inl ⟨by kernel_rfl, ?_⟩) hS ?_
  rotate_left
  · intro w' hSw; go_simp; with_reducible rfl
  try simp only [Act.put, List.getElem_toArray, List.getElem_cons_zero, List.getElem_cons_succ, List.setIfInBounds_toArray, List.set_cons_zero, List.set_cons_succ]
  refine wpAnyY_takeC (v := ?_) [24, 23, 16, 15, 8] r7_7 r7o_7 (fun _ _ _ h => h) (Or.inl ⟨by kernel_rfl, ?_⟩) hS ?_
  rotate_left
  · intro w' hSw; go_simp; with_reducible rfl
  try simp only [Act.put, List.getElem_toArray, List.getElem_cons_zero, List.getElem_cons_succ, List.setIfInBounds_toArray, List.set_cons_zero, List.set_cons_succ]
  refine wpAnyY_takeC (v := ?_) [24, 23, 16, 15] r7_8 r7o_8 (fun _ _ _ h => h) (Or.inl ⟨by kernel_rfl, ?_⟩) hS ?_
  rotate_left
  · intro w' hSw; go_simp; with_reducible rfl
  try simp only [Act.put, List.getElem_toArray, List.getElem_cons_zero, List.getElem_cons_succ, List.setIfInBounds_toArray, List.set_cons_zero, List.set_cons_succ]
  refine wpAnyY_takeC (v := ?_) [24, 23, 16, 13] r7_9 r7o_9 (fun _ _ _ h => h) (Or.inl ⟨by kernel_rfl, ?_⟩) hS ?_
  rotate_left
  · intro w' hSw; obtain ⟨y0, y1, y2, y3, y4, y5, z0, z1, z2, z3⟩ := hSw; go_simp; with_reducible rfl
  try simp only [Act.put, List.getElem_toArray, List.getElem_cons_zero, List.getElem_cons_succ, List.setIfInBounds_toArray, List.set_cons_zero, List.set_cons_succ]
  refine wpAnyY_takeC (v := ?_) [24, 23, 16, 13, 12, 11] r7_10 r7o_10 (fun _ _ _ h => h) (Or.inl ⟨by kernel_rfl, ?_⟩) hS ?_
  rotate_left
  · intro w' hSw; go_simp; with_reducible rfl
  try simp only [Act.put, List.getElem_toArray, List.getElem_cons_zero, List.getElem_cons_succ, List.setIfInBounds_toArray, List.set_cons_zero, List.set_cons_succ]
  refine wpAnyY_takeC (v := ?_) [24, 23, 16, 13, 12] r7_11 r7o_11 (fun _ _ _ h => h) (Or.inl ⟨by kernel_rfl, ?_⟩) hS ?_
  rotate_left
  · intro w' hSw; go_simp; with_reducible rfl
  try simp only [Act.put, List.getElem_toArray, List.getElem_cons_zero, List.getElem_cons_succ, List.setIfInBounds_toArray, List.set_cons_zero, List.set_cons_succ]
  refine wpAnyY_takeC (v := ?_) [24, 23, 16, 13] r7_12 r7o_12 (fun _ _ _ h => h) (Or.inl ⟨by kernel_rfl, ?_⟩) hS ?_
  rotate_left
  · intro w' hSw; obtain ⟨y0, y1, y2, y3, y4, y5, z0, z1, z2, z3⟩ := hSw; go_simp; with_reducible rfl
  try simp only [Act.put, List.getElem_toArray, List.getElem_cons_zero, List.getElem_cons_succ, List.setIfInBounds_toArray, List.set_cons_zero, List.set_cons_succ]
  refine wpAnyY_oneSWC r7_13 r7o_13 (by kernel_rfl) (fun K13 hK13 => ?_)
  go_simp
  refine (HI1.out _).mono ?_
  rintro e w13 ⟨rfl, hGr13⟩
  replace gd := gd.t hGr13
  refine hK13.out _ _ (hSk _ gd) (fun hS => ?_)
  clear hGr13 hK13
  try simp only [Act.put, List.getElem_toArray, List.getElem_cons_zero, List.getElem_cons_succ, List.setIfInBounds_toArray, List.set_cons_zero, List.set_cons_succ]
  refine wpAnyY_takeC (v := ?_) [24, 23, 16, 15] r7_14 r7o_14 (fun _ _ _ h => h) (Or.inl ⟨by kernel_rfl, ?_⟩) hS ?_
  rotate_left
  · intro w' hSw; go_simp; with_reducible rfl
  try simp only [Act.put, List.getElem_toArray, List.getElem_cons_zero, List.getElem_cons_succ, List.setIfInBounds_toArray, List.set_cons_zero, List.set_cons_succ]
  refine wpAnyY_takeC (v := ?_) [24, 23, 16] r7_15 r7o_15 (fun _ _ _ h => h) (Or.inl ⟨by kernel_rfl, ?_⟩) hS ?_
  rotate_left
  · intro w' hSw; go_simp; with_reducible rfl
  try simp only [Act.put, List.getElem_toArray, List.getElem_cons_zero, List.getElem_cons_succ, List.setIfInBounds_toArray, List.set_cons_zero, List.set_cons_succ]
  refine wpAnyY_takeC (v := ?_) [24, 23] r7_16 r7o_16 (fun _ _ _ h => h) (Or.inl ⟨by kernel_rfl, ?_⟩) hS ?_
  rotate_left
  · intro w' hSw; go_simp; with_reducible rfl
  try simp only [Act.put, List.getElem_toArray, List.getElem_cons_zero, List.getElem_cons_succ, List.setIfInBounds_toArray, List.set_cons_zero, List.set_cons_succ]
  refine wpAnyY_takeC (v := ?_) [24, 21] r7_17 r7o_17 (fun _ _ _ h => h) (Or.inl ⟨by kernel_rfl, ?_⟩) hS ?_
  rotate_left
  · intro w' hSw; obtain ⟨y0, y1, y2, y3, y4, y5, z0, z1, z2, z3⟩ := hSw; go_simp; with_reducible rfl
  try simp only [Act.put, List.getElem_toArray, List.getElem_cons_zero, List.getElem_cons_succ, List.setIfInBounds_toArray, List.set_cons_zero, List.set_cons_succ]
  refine wpAnyY_takeC (v := ?_) [24, 21, 20, 19] r7_18 r7o_18 (fun _ _ _ h => h) (Or.inl ⟨by kernel_rfl, ?_⟩) hS ?_
  rotate_left
  · intro w' hSw; go_simp; with_reducible rfl
  try simp only [Act.put, List.getElem_toArray, List.getElem_cons_zero, List.getElem_cons_succ, List.setIfInBounds_toArray, List.set_cons_zero, List.set_cons_succ]
  refine wpAnyY_takeC (v := ?_) [24, 21, 20] r7_19 r7o_19 (fun _ _ _ h => h) (Or.inl ⟨by kernel_rfl, ?_⟩) hS ?_
  rotate_left
  · intro w' hSw; go_simp; with_reducible rfl
  try simp only [Act.put, List.getElem_toArray, List.getElem_cons_zero, List.getElem_cons_succ, List.setIfInBounds_toArray, List.set_cons_zero, List.set_cons_succ]
  refine wpAnyY_takeC (v := ?_) [24, 21] r7_20 r7o_20 (fun _ _ _ h => h) (Or.inl ⟨by kernel_rfl, ?_⟩) hS ?_
  rotate_left
  · intro w' hSw; obtain ⟨y0, y1, y2, y3, y4, y5, z0, z1, z2, z3⟩ := hSw; go_simp; with_reducible rfl
  try simp only [Act.put, List.getElem_toArray, List.getElem_cons_zero, List.getElem_cons_succ, List.setIfInBounds_toArray, List.set_cons_zero, List.set_cons_succ]
  refine wpAnyY_oneSWC r7_21 r7o_21 (by kernel_rfl) (fun K21 hK21 => ?_)
  go_simp
  refine (HI2.out _).mono ?_
  rintro e w21 ⟨rfl, hGr21⟩
  replace gd := gd.t hGr21
  refine hK21.out _ _ (hSk _ gd) (fun hS => ?_)
  clear hGr21 hK21
  try simp only [Act.put, List.getElem_toArray, List.getElem_cons_zero, List.getElem_cons_succ, List.setIfInBounds_toArray, List.set_cons_zero, List.set_cons_succ]
  refine wpAnyY_takeC (v := ?_) [24, 23] r7_22 r7o_22 (fun _ _ _ h => h) (Or.inl ⟨by kernel_rfl, ?_⟩) hS ?_
  rotate_left
  · intro w' hSw; go_simp; with_reducible rfl
  try simp only [Act.put, List.getElem_toArray, List.getElem_cons_zero, List.getElem_cons_succ, List.setIfInBounds_toArray, List.set_cons_zero, List.set_cons_succ]
  refine wpAnyY_takeC (v := ?_) [24] r7_23 r7o_23 (fun _ _ _ h => h) (Or.inl ⟨by kernel_rfl, ?_⟩) hS ?_
  rotate_left
  · intro w' hSw; go_simp; with_reducible rfl
  try simp only [Act.put, List.getElem_toArray, List.getElem_cons_zero, List.getElem_cons_succ, List.setIfInBounds_toArray, List.set_cons_zero, List.set_cons_succ]
  refine wpAnyY_takeC (v := ?_) [] r7_24 r7o_24 (fun _ _ _ h => h) (Or.inl ⟨by kernel_rfl, ?_⟩) hS ?_
  rotate_left
  · intro w' hSw; go_simp; with_reducible rfl
  try simp only [Act.put, List.getElem_toArray, List.getElem_cons_zero, List.getElem_cons_succ, List.setIfInBounds_toArray, List.set_cons_zero, List.set_cons_succ]
  refine wpAnyY_takeC (v := ?_) [44, 34, 33, 28, 27, 26] r7_25 r7o_25 (fun _ _ _ h => h) (Or.inl ⟨by kernel_rfl, ?_⟩) hS ?_
  rotate_left
  · intro w' hSw; go_simp; with_reducible rfl
  try simp only [Act.put, List.getElem_toArray, List.getElem_cons_zero, List.getElem_cons_succ, List.setIfInBounds_toArray, List.set_cons_zero, List.set_cons_succ]
  refine wpAnyY_takeC (v := ?_) [44, 34, 33, 28, 27] r7_26 r7o_26 (fun _ _ _ h => h) (Or.inl ⟨by kernel_rfl, ?_⟩) hS ?_
  rotate_left
  · intro w' hSw; go_simp; with_reducible rfl
  try simp only [Act.put, List.getElem_toArray, List.getElem_cons_zero, List.getElem_cons_succ, List.setIfInBounds_toArray, List.set_cons_zero, List.set_cons_succ]
  refine wpAnyY_takeC (v := ?_) [44, 34, 33, 28] r7_27 r7o_27 (fun _ _ _ h => h) (Or.inl ⟨by kernel_rfl, ?_⟩) hS ?_
  rotate_left
  · intro w' hSw; go_simp; with_reducible rfl
  try simp only [Act.put, List.getElem_toArray, List.getElem_cons_zero, List.getElem_cons_succ, List.setIfInBounds_toArray, List.set_cons_zero, List.set_cons_succ]
  refine wpAnyY_takeC (v := ?_) [44, 34, 33] r7_28 r7o_28 (fun _ _ _ h => h) (Or.inl ⟨by kernel_rfl, ?_⟩) hS ?_
  rotate_left
  · intro w' hSw; obtain ⟨y0, y1, y2, y3, y4, y5, z0, z1, z2, z3⟩ := hSw; go_simp; with_reducible rfl
  try simp only [Act.put, List.getElem_toArray, List.getElem_cons_zero, List.getElem_cons_succ, List.setIfInBounds_toArray, List.set_cons_zero, List.set_cons_succ]
  refine wpAnyY_takeC (v := ?_) [44, 34, 33, 32, 31, 30] r7_29 r7o_29 (fun _ _ _ h => h) (Or.inl ⟨by kernel_rfl, ?_⟩) hS ?_
  rotate_left
  · intro w' hSw; go_simp; with_reducible rfl
  try simp only [Act.put, List.getElem_toArray, List.getElem_cons_zero, List.getElem_cons_succ, List.setIfInBounds_toArray, List.set_cons_zero, List.set_cons_succ]
  refine wpAnyY_takeC (v := ?_) [44, 34, 33, 32, 31] r7_30 r7o_30 (fun _ _ _ h => h) (Or.inl ⟨by kernel_rfl, ?_⟩) hS ?_
  rotate_left
  · intro w' hSw; go_simp; with_reducible rfl
  try simp only [Act.put, List.getElem_toArray, List.getElem_cons_zero, List.getElem_cons_succ, List.setIfInBounds_toArray, List.set_cons_zero, List.set_cons_succ]
  refine wpAnyY_takeC (v := ?_) [44, 34, 33, 32] r7_31 r7o_31 (fun _ _ _ h => h) (Or.inl ⟨by kernel_rfl, ?_⟩) hS ?_
  rotate_left
  · intro w' hSw; go_simp; with_reducible rfl
  try simp only [Act.put, List.getElem_toArray, List.getElem_cons_zero, List.getElem_cons_succ, List.setIfInBounds_toArray, List.set_cons_zero, List.set_cons_succ]
  refine wpAnyY_takeC (v := ?_) [44, 34, 33] r7_32 r7o_32 (fun _ _ _ h => h) (Or.inl ⟨by kernel_rfl, ?_⟩) hS ?_
  rotate_left
  · intro w' hSw; obtain ⟨y0, y1, y2, y3, y4, y5, z0, z1, z2, z3⟩ := hSw; go_simp; with_reducible rfl
  try simp only [Act.put, List.getElem_toArray, List.getElem_cons_zero, List.getElem_cons_succ, List.setIfInBounds_toArray, List.set_cons_zero, List.set_cons_succ]
  refine wpAnyY_takeC (v := ?_) [44, 34] r7_33 r7o_33 (fun _ _ _ h => h) (Or.inl ⟨by kernel_rfl, ?_⟩) hS ?_
  rotate_left
  · intro w' hSw; go_simp; with_reducible rfl
  try simp only [Act.put, List.getElem_toArray, List.getElem_cons_zero, List.getElem_cons_succ, List.setIfInBounds_toArray, List.set_cons_zero, List.set_cons_succ]
  refine wpAnyY_takeC (v := ?_) [44] r7_34 r7o_34 (fun _ _ _ h => h) (Or.inl ⟨by kernel_rfl, ?_⟩) hS ?_
  rotate_left
  · intro w' hSw; go_simp; with_reducible rfl
  try simp only [Act.put, List.getElem_toArray, List.getElem_cons_zero, List.getElem_cons_succ, List.setIfInBounds_toArray, List.set_cons_zero, List.set_cons_succ]
  refine wpAnyY_takeC (v := ?_) [44, 43, 38, 37, 36] r7_35 r7o_35 (fun _ _ _ h => h) (Or.inl ⟨by kernel_rfl, ?_⟩) hS ?_
  rotate_left
  · intro w' hSw; go_simp; with_reducible rfl
  try simp only [Act.put, List.getElem_toArray, List.getElem_cons_zero, List.getElem_cons_succ, List.setIfInBounds_toArray, List.set_cons_zero, List.set_cons_succ]
  refine wpAnyY_takeC (v := ?_) [44, 43, 38, 37] r7_36 r7o_36 (fun _ _ _ h => h) (Or.inl ⟨by kernel_rfl, ?_⟩) hS ?_
  rotate_left
  · intro w' hSw; go_simp; with_reducible rfl
  try simp only [Act.put, List.getElem_toArray, List.getElem_cons_zero, List.getElem_cons_succ, List.setIfInBounds_toArray, List.set_cons_zero, List.set_cons_succ]
  refine wpAnyY_takeC (v := ?_) [44, 43, 38] r7_37 r7o_37 (fun _ _ _ h => h) (Or.inl ⟨by kernel_rfl, ?_⟩) hS ?_
  rotate_left
  · intro w' hSw; go_simp; with_reducible rfl
  try simp only [Act.put, List.getElem_toArray, List.getElem_cons_zero, List.getElem_cons_succ, List.setIfInBounds_toArray, List.set_cons_zero, List.set_cons_succ]
  refine wpAnyY_takeC (v := ?_) [44, 43] r7_38 r7o_38 (fun _ _ _ h => h) (Or.inl ⟨by kernel_rfl, ?_⟩) hS ?_
  rotate_left
  · intro w' hSw; obtain ⟨y0, y1, y2, y3, y4, y5, z0, z1, z2, z3⟩ := hSw; go_simp; with_reducible rfl
  try simp only [Act.put, List.getElem_toArray, List.getElem_cons_zero, List.getElem_cons_succ, List.setIfInBounds_toArray, List.set_cons_zero, List.set_cons_succ]
  refine wpAnyY_takeC (v := ?_) [44, 43, 42, 41, 40] r7_39 r7o_39 (fun _ _ _ h => h) (Or.inl ⟨by kernel_rfl, ?_⟩) hS ?_
  rotate_left
  · intro w' hSw; go_simp; with_reducible rfl
  try simp only [Act.put, List.getElem_toArray, List.getElem_cons_zero, List.getElem_cons_succ, List.setIfInBounds_toArray, List.set_cons_zero, List.set_cons_succ]
  refine wpAnyY_takeC (v := ?_) [44, 43, 42, 41] r7_40 r7o_40 (fun _ _ _ h => h) (Or.inl ⟨by kernel_rfl, ?_⟩) hS ?_
  rotate_left
  · intro w' hSw; go_simp; with_reducible rfl
  try simp only [Act.put, List.getElem_toArray, List.getElem_cons_zero, List.getElem_cons_succ, List.setIfInBounds_toArray, List.set_cons_zero, List.set_cons_succ]
  refine wpAnyY_takeC (v := ?_) [44, 43, 42] r7_41 r7o_41 (fun _ _ _ h => h) (Or.inl ⟨by kernel_rfl, ?_⟩) hS ?_
  rotate_left
  · intro w' hSw; go_simp; with_reducible rfl
  try simp only [Act.put, List.getElem_toArray, List.getElem_cons_zero, List.getElem_cons_succ, List.setIfInBounds_toArray, List.set_cons_zero, List.set_cons_succ]
  refine wpAnyY_takeC (v := ?_) [44, 43] r7_42 r7o_42 (fun _ _ _ h => h) (Or.inl ⟨by kernel_rfl, ?_⟩) hS ?_
  rotate_left
  · intro w' hSw; obtain ⟨y0, y1, y2, y3, y4, y5, z0, z1, z2, z3⟩ := hSw; go_simp; with_reducible rfl
  try simp only [Act.put, List.getElem_toArray, List.getElem_cons_zero, List.getElem_cons_succ, List.setIfInBounds_toArray, List.set_cons_zero, List.set_cons_succ]
  refine wpAnyY_takeC (v := ?_) [44] r7_43 r7o_43 (fun _ _ _ h => h) (Or.inl ⟨by kernel_rfl, ?_⟩) hS ?_
  rotate_left
  · intro w' hSw; go_simp; with_reducible rfl
  try simp only [Act.put, List.getElem_toArray, List.getElem_cons_zero, List.getElem_cons_succ, List.setIfInBounds_toArray, List.set_cons_zero, List.set_cons_succ]
  refine wpAnyY_takeC (v := ?_) [] r7_44 r7o_44 (fun _ _ _ h => h) (Or.inl ⟨by kernel_rfl, ?_⟩) hS ?_
  rotate_left
  · intro w' hSw; go_simp; with_reducible rfl
  try simp only [Act.put, List.getElem_toArray, List.getElem_cons_zero, List.getElem_cons_succ, List.setIfInBounds_toArray, List.set_cons_zero, List.set_cons_succ]
  refine wpAnyY_oneW (i := 45) (by kernel_rfl) r7o_45 (by kernel_rfl) (by kernel_rfl) (fun K45 hK45 => ?_)
  go_simp
  refine hK45.out _ _ ?_
  try simp only [Act.put, List.getElem_toArray, List.getElem_cons_zero, List.getElem_cons_succ, List.setIfInBounds_toArray, List.set_cons_zero, List.set_cons_succ]
  refine wpAnyY_done (by kernel_rfl) ?_ _
  clear hS hK45 hSk
  replace g0 := g0.t gd
  go_wp2_with fail
  refine (HFr.out _).mono ?_
  rintro e w9 ⟨rfl, hG1⟩
  go_wp2_with fail
  go_ret
  exact ⟨rfl, g0.t hG1⟩
end
end Go.Proofs.Ytdneehbhncekaaa
