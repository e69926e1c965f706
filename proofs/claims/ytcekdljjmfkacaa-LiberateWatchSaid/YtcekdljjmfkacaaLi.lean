import Derived.Test.YtcekdljjmfkacaaLf
import Derived.Test.YtcekdljjmfkacaaLh
set_option linter.unusedSimpArgs false
set_option linter.unusedVariables false
namespace Go.Proofs.Ytcekdljjmfkacaa
open Go.RowKit
attribute [local go_sem] Oper.semAt_some

theorem wrap_div2 (a b : Nat) (ha : a ≤ 9000000000000000000) : IntKind.i64.wrap ((a : Int) / b) = ((a / b : Nat) : Int) := by
  have h : a / b ≤ a := Nat.div_le_self _ _
  have e : (a : Int) / b = ((a / b : Nat) : Int) := by simp
  rw [e]
  generalize a / b = q at *
  exact IntWalk.i64_in _ (by omega)
theorem cells_four {W : World} {g : Nat} {t : TypeId} {a b c d : Value} (h : Blk W g t #[a, b, c, d]) : ∀ j u, [a, b, c, d][j]? = some u → W.cell? ((⟨g, 0, none⟩ : Addr).add j) = some u := by
  intro j u hj
  rw [add0, h.cell j]
  simpa using hj
theorem plB {cols rows x y : Nat} (h1 : x < cols) (h2 : y < rows) : isPlaceB cols rows x y = true := by
  simp [isPlaceB, isInB]
  omega
theorem inB {cols x : Nat} (h : x < cols) : isInB x 0 ((cols : Int) - 1) = true := by
  simp [isInB]
  omega
def StPost (w : World) (north : Int) (east : List Int) (P : List (Nat × Nat)) (sl sh : Nat) (e : Ending) (w' : World) : Prop := ∃ v, e = .returned v ∧ w'.ownsRow w.heap.size 88 4 v P.length (stV north east P sl sh P.length) ∧ G w w'
section
variable (north wrong lw lg lh hours dark : Int) (cols lofts bx bY hx hy sl sh : Nat) (east : List Int) (svs : List Sv) (n k : Nat) (ea sa ha fa : Option Addr) (ec sc hc fc : Nat) (w : World)
set_option maxRecDepth 100000 in
set_option maxHeartbeats 8000000 in
theorem stopsTo_ok (he : IntsAt w ea east) (hs : SvsAt w sa svs) (hk : checkE north cols east lofts svs wrong = 0) (hb1 : bx < cols) (hb2 : bY < east.length) (hh1 : hx < cols) (hh2 : hy < east.length) (hsl : 1 ≤ sl ∧ sl ≤ sh) (hsh : sh ≤ 3000000) :
    Calls Try.prog 36 #[.agg #[.int .i64 north, .int .i64 cols, .slice ea east.length ec, .int .i64 lofts, .slice sa svs.length sc, .int .i64 wrong, .int .i64 bx, .int .i64 bY, .slice ha n hc, .int .i64 (sl : Nat), .int .i64 (sh : Nat), .slice fa k fc, .int .i64 lw, .int .i64 lg, .int .i64 lh, .int .i64 hours, .int .i64 dark], .agg #[.int .i64 hx, .int .i64 hy]] w (StPost w north east (pbK bx bY hx hy (stepsN bx bY hx hy) (stepsN bx bY hx hy)) sl sh) := by
  have hv := checkE_ok hk
  have hvb := vm_bounds hv
  have hl2 := (checkE_zero hk).2.1
  have HB := Lib.hid (fun (W : World) => lPlacesBetween_any bx bY hx hy W (by omega) (by omega) (by omega) (by omega))
  have hst99 : stepsN bx bY hx hy ≤ 99 := by unfold stepsN dst; omega
  have hPm := pbK_mem (fx := bx) (fy := bY) (tx := hx) (ty := hy) (n := stepsN bx bY hx hy) (k := stepsN bx bY hx hy) (cols := cols) (rows := east.length) (Nat.le_refl _) hb1 hb2 hh1 hh2
  have hPl := pbK_len bx bY hx hy (stepsN bx bY hx hy) (stepsN bx bY hx hy)
  obtain ⟨P, hP⟩ : ∃ P, P = pbK bx bY hx hy (stepsN bx bY hx hy) (stepsN bx bY hx hy) := ⟨_, rfl⟩
  unfold PbPost at HB
  rw [← hP] at HB hPm hPl ⊢
  have hN1 : 1 ≤ P.length := by omega
  have hN100 : P.length ≤ 100 := by omega
  have hgm : ∀ i, i < P.length → (P.getD i (0, 0)).1 < cols ∧ (P.getD i (0, 0)).2 < east.length := fun i hi => hPm _ (by
    rw [show P.getD i (0, 0) = P[i] by simp [hi]]
    exact List.getElem_mem hi)
  have hLn := fun (W : World) (hW : G w W) (i j : Nat) (hi : i < P.length) (hj : j < P.length) => Length_ok (north := north) (cols := (cols : Int)) (lofts := (lofts : Int)) (wrong := wrong) (ax := ((P.getD i (0, 0)).1 : Nat)) (bx := ((P.getD j (0, 0)).1 : Nat)) (east := east) (svs := svs) (ea := ea) (sa := sa) (ec := ec) (sc := sc) (w := W) (rule := 0) (p := (P.getD i (0, 0)).2) (q := (P.getD j (0, 0)).2) (he.below hW) (hs.below hW) (by omega) (by omega) hk (by omega) (plB (hgm i hi).1 (hgm i hi).2) (plB (hgm j hj).1 (hgm j hj).2)
  have hsq : ∀ i, i < P.length → lenS north east P i ≤ 100000000 := fun i hi => by
    have h1 := hgm i hi
    have h2 := hgm (min (i + 1) (P.length - 1)) (by omega)
    have := sq_bd (ax := (P.getD i (0, 0)).1) (bx := (P.getD (min (i + 1) (P.length - 1)) (0, 0)).1) hv h1.2 h2.2 (inB h1.1) (inB h2.1)
    exact rnd0_le _ (by omega)
  have hfar : ∀ i, i ≤ P.length → farL north east P i ≤ i * 100000000 := by
    intro i
    induction i with
    | zero => intro _; simp [farL]
    | succ i ih =>
      intro hi
      have := ih (by omega)
      have := hsq i (by omega)
      rw [farL_succ]
      omega
  have HLN := Lib.hid hLn
  have HSQ := Lib.hid hsq
  have HFAR := Lib.hid hfar
  have HPP : Hid (∀ w' v, w'.ownsRow w.heap.size 88 4 v P.length (stV north east P sl sh P.length) → G w w' → StPost w north east P sl sh (.returned v) w') := fun w' v a b => ⟨v, rfl, a, b⟩
  generalize StPost w north east P sl sh = PP at *
  clear hLn hsq hfar hPm hPl hP hst99 hgm hv hvb hl2 hk he hs hb1 hb2 hh1 hh2
  obtain ⟨g0, b0, b1⟩ := w2_spec w #[.int .i64 north, .int .i64 cols, .slice ea east.length ec, .int .i64 lofts, .slice sa svs.length sc, .int .i64 wrong, .int .i64 bx, .int .i64 bY, .slice ha n hc, .int .i64 (sl : Nat), .int .i64 (sh : Nat), .slice fa k fc, .int .i64 lw, .int .i64 lg, .int .i64 lh, .int .i64 hours, .int .i64 dark] #[.int .i64 hx, .int .i64 hy] 35 27
  go_enter Try.func36, Try.ntmps36
  go_wp2_with (go_at_call 34; refine (HB.out _).mono ?_; rintro e wa ⟨vA, rfl, hownA, hG1⟩; obtain ⟨gA, capA, eA, hgA, hpt⟩ := pts_own rfl hownA (by omega); subst eA)
  have hwz := g0.size
  have hwa : w.heap.size ≤ wa.heap.size := Nat.le_trans hwz hG1.size
  replace b0 := b0.keep hG1
  replace b1 := b1.keep hG1
  replace g0 := g0.t hG1
  have HPT := Lib.hid hpt
  clear hpt hownA hG1 HB
  obtain ⟨i0, hi0, hz0, hz1, hz2⟩ := info_parts info77
  go_loopw [6, 7, 19] (fun v fr i wr => ∃ q : Nat, q ≤ P.length ∧ i = .int .i64 q ∧ fr = .int .i64 (farL north east P q : Nat) ∧ wr.ownsRow wa.heap.size 88 4 v q (stV north east P sl sh q) ∧ G wa wr) (fun _ _ i _ => P.length - (intOf i).toNat)
  case atStart => exact ⟨0, Nat.zero_le _, rfl, rfl, World.ownsRow_nil _ _ _ _, G.rf _⟩
  case round =>
    obtain ⟨q, hq, rfl, rfl, ho, hGr⟩ := hrel
    obtain ⟨wo, rfl⟩ : ∃ wo, wo = wr := ⟨_, rfl⟩
    have HO := Lib.hid ho
    clear ho
    by_cases hlt : q < P.length
    · have hqi : (q : Int) < P.length := by omega
      obtain ⟨j, hj, hjl⟩ : ∃ j, j = min (q + 1) (P.length - 1) ∧ j < P.length := ⟨_, rfl, by omega⟩
      have hS := HSQ.out q hlt
      have hF := HFAR.out q hq
      have hfs := farL_succ north east P q
      have hsv := stV_succ north east P sl sh q
      have hln : lenS north east P q = rnd 0 (sqI north east (P.getD q (0, 0)).1 (P.getD q (0, 0)).2 (P.getD j (0, 0)).1 (P.getD j (0, 0)).2).toNat := by unfold lenS; rw [← hj]
      have hlo : loT north east P sh q = farL north east P q / sh := rfl
      have hhi : hiT north east P sl q = (farL north east P q + lenS north east P q + sl - 1) / sl := rfl
      have HL := Lib.hid (fun (W : World) (hW : G w W) => HLN.out W hW q j hlt hjl)
      simp only [← hln] at HL
      obtain ⟨c0, c1⟩ := (HPT.out).keep hgA hGr q hlt
      obtain ⟨d0, d1⟩ := (HPT.out).keep hgA hGr j hjl
      generalize P.getD q (0, 0) = p at *
      generalize P.getD j (0, 0) = p2 at *
      obtain ⟨px, py⟩ := p
      obtain ⟨qx, qy⟩ := p2
      simp only at c0 c1 d0 d1 hsv HL
      rw [hlo, hhi] at hsv
      generalize lenS north east P q = st at *
      generalize farL north east P q = fr at *
      have HSV := Lib.hid hsv
      have HFS := Lib.hid hfs
      have HJ := Lib.hid hj
      clear hlo hhi hsv hfs hln
      have gw := g0.t hGr
      have k0 := b0.keep hGr
      have lA := Nat.lt_of_lt_of_le hgA hGr.size
      have xj : min ((q : Int) + 1) ((P.length : Int) - 1) = (j : Nat) := by omega
      have x1 : IntKind.i64.wrap ((q : Int) + 1) = (q : Int) + 1 := IntWalk.i64_in _ (by omega)
      have x2 : IntKind.i64.wrap ((P.length : Int) - 1) = (P.length : Int) - 1 := IntWalk.i64_in _ (by omega)
      have hji : (j : Int) < P.length := by omega
      clear hj
      have m0 := k0.cell 0
      have m1 := k0.cell 1
      have m2 := k0.cell 2
      have m3 := k0.cell 3
      have m4 := k0.cell 4
      have m5 := k0.cell 5
      have lM := k0.lt
      go_wp2_with (go_at_call 16; refine (HL.out _ ((gw.a _).a _)).mono ?_; rintro e w3 ⟨rfl, hG3⟩)
      clear m0 m1 m2 m3 m4 m5 lM c0 c1 d0 d1
      have gA2 : G wo ((wo.alloc (.cells #[.int .i64 (px : Nat), .int .i64 (py : Nat)] 27)).alloc (.cells #[.int .i64 (qx : Nat), .int .i64 (qy : Nat)] 27)) := ((G.rf _).a _).a _
      have g3 : G wo w3 := gA2.t hG3
      have p3 : Blk w3 wo.heap.size 27 #[.int .i64 (px : Nat), .int .i64 (py : Nat)] := ((Blk.new wo 27 _).alloc (.cells #[.int .i64 (qx : Nat), .int .i64 (qy : Nat)] 27)).keep hG3
      have k3 := k0.keep g3
      obtain ⟨np, hnp⟩ : ∃ np, np = wo.heap.size := ⟨_, rfl⟩
      have gw3 := gw.t g3
      rw [← hnp] at p3
      have hS3 := hS
      have xq : IntKind.i64.wrap ((fr : Int) / sh) = ((fr / sh : Nat) : Int) := wrap_div2 _ _ (by omega)
      have hsh1 : ¬ sh = 0 := by omega
      have xa : IntKind.i64.wrap ((fr : Int) + st) = ((fr + st : Nat) : Int) := by rw [IntWalk.i64_in _ (by omega)]; rfl
      have hsh0 : ((sh : Int) == 0) = false := by simp; omega
      have HRU := Lib.hid (fun (W : World) => lRoundedUp_any (fr + st) sl W (by omega) (by omega))
      have hSk : ∀ W', G w3 W' → (W'.cell? ⟨np, 0, none⟩ = some (.int .i64 (px : Nat)) ∧ W'.cell? ⟨np, 1, none⟩ = some (.int .i64 (py : Nat))) ∧ W'.cell? ⟨w.heap.size, 9, none⟩ = some (.int .i64 (sl : Nat)) ∧ W'.cell? ⟨w.heap.size, 10, none⟩ = some (.int .i64 (sh : Nat)) := fun W' hW => ⟨⟨(p3.keep hW).cell 0, (p3.keep hW).cell 1⟩, (k3.keep hW).cell 9, (k3.keep hW).cell 10⟩
      rw [← hnp]
      clear hnp
      go_wp2
      refine wp_region_Y (S := fun W' => (W'.cell? ⟨np, 0, none⟩ = some (.int .i64 (px : Nat)) ∧ W'.cell? ⟨np, 1, none⟩ = some (.int .i64 (py : Nat))) ∧ W'.cell? ⟨w.heap.size, 9, none⟩ = some (.int .i64 (sl : Nat)) ∧ W'.cell? ⟨w.heap.size, 10, none⟩ = some (.int .i64 (sh : Nat))) 17 19 rfl (by kernel_rfl) (hSk _ (G.rf _).d) (fun hS => ?_)
      refine wpAnyY_take (i := 0) (v := ?_) rfl (by kernel_rfl) (by kernel_rfl) (by kernel_rfl) (by kernel_rfl) (fun _ _ _ h => h) (Or.inl ⟨by kernel_rfl, ?_⟩) hS ?_
      rotate_left
      · intro w' hSw; go_simp; with_reducible rfl
      try simp only [Act.put, List.setIfInBounds_toArray, List.set_cons_zero, List.set_cons_succ]
      refine wpAnyY_take (i := 1) (v := ?_) rfl (by kernel_rfl) (by kernel_rfl) (by kernel_rfl) (by kernel_rfl) (fun _ _ _ h => h) (Or.inl ⟨by kernel_rfl, ?_⟩) hS ?_
      rotate_left
      · intro w' hSw; obtain ⟨⟨y0, y1⟩, y2, y3⟩ := hSw; go_simp; with_reducible rfl
      try simp only [Act.put, List.setIfInBounds_toArray, List.set_cons_zero, List.set_cons_succ]
      refine wpAnyY_take (i := 2) (v := ?_) rfl (by kernel_rfl) (by kernel_rfl) (by kernel_rfl) (by kernel_rfl) (fun _ _ _ h => h) (Or.inl ⟨by kernel_rfl, ?_⟩) hS ?_
      rotate_left
      · intro w' hSw; go_simp; with_reducible rfl
      try simp only [Act.put, List.setIfInBounds_toArray, List.set_cons_zero, List.set_cons_succ]
      refine wpAnyY_take (i := 3) (v := ?_) rfl (by kernel_rfl) (by kernel_rfl) (by kernel_rfl) (by kernel_rfl) (fun _ _ _ h => h) (Or.inl ⟨by kernel_rfl, ?_⟩) hS ?_
      rotate_left
      · intro w' hSw; go_simp; with_reducible rfl
      try simp only [Act.put, List.setIfInBounds_toArray, List.set_cons_zero, List.set_cons_succ]
      refine wpAnyY_take (i := 4) (v := ?_) rfl (by kernel_rfl) (by kernel_rfl) (by kernel_rfl) (by kernel_rfl) (fun _ _ _ h => h) (Or.inl ⟨by kernel_rfl, ?_⟩) hS ?_
      rotate_left
      · intro w' hSw; go_simp; with_reducible rfl
      try simp only [Act.put, List.setIfInBounds_toArray, List.set_cons_zero, List.set_cons_succ]
      refine wpAnyY_take (i := 5) (v := ?_) rfl (by kernel_rfl) (by kernel_rfl) (by kernel_rfl) (by kernel_rfl) (fun _ _ _ h => h) (Or.inl ⟨by kernel_rfl, ?_⟩) hS ?_
      rotate_left
      · intro w' hSw; obtain ⟨⟨y0, y1⟩, y2, y3⟩ := hSw; go_simp; with_reducible rfl
      try simp only [Act.put, List.setIfInBounds_toArray, List.set_cons_zero, List.set_cons_succ]
      refine wpAnyY_take (i := 6) (v := ?_) rfl (by kernel_rfl) (by kernel_rfl) (by kernel_rfl) (by kernel_rfl) (fun _ _ _ h => h) (Or.inl ⟨by kernel_rfl, ?_⟩) hS ?_
      rotate_left
      · intro w' hSw; go_simp; with_reducible rfl
      try simp only [Act.put, List.setIfInBounds_toArray, List.set_cons_zero, List.set_cons_succ]
      refine wpAnyY_take (i := 7) (v := ?_) rfl (by kernel_rfl) (by kernel_rfl) (by kernel_rfl) (by kernel_rfl) (fun _ _ _ h => h) (Or.inl ⟨by kernel_rfl, ?_⟩) hS ?_
      rotate_left
      · intro w' hSw; go_simp; with_reducible rfl
      try simp only [Act.put, List.setIfInBounds_toArray, List.set_cons_zero, List.set_cons_succ]
      refine wpAnyY_take (i := 8) (v := ?_) rfl (by kernel_rfl) (by kernel_rfl) (by kernel_rfl) (by kernel_rfl) (fun _ _ _ h => h) (Or.inl ⟨by kernel_rfl, ?_⟩) hS ?_
      rotate_left
      · intro w' hSw; go_simp; with_reducible rfl
      try simp only [Act.put, List.setIfInBounds_toArray, List.set_cons_zero, List.set_cons_succ]
      refine wpAnyY_take (i := 9) (v := ?_) rfl (by kernel_rfl) (by kernel_rfl) (by kernel_rfl) (by kernel_rfl) (fun _ _ _ h => h) (Or.inl ⟨by kernel_rfl, ?_⟩) hS ?_
      rotate_left
      · intro w' hSw; go_simp; with_reducible rfl
      try simp only [Act.put, List.setIfInBounds_toArray, List.set_cons_zero, List.set_cons_succ]
      refine wpAnyY_take (i := 10) (v := ?_) rfl (by kernel_rfl) (by kernel_rfl) (by kernel_rfl) (by kernel_rfl) (fun _ _ _ h => h) (Or.inl ⟨by kernel_rfl, ?_⟩) hS ?_
      rotate_left
      · intro w' hSw; go_simp; with_reducible rfl
      try simp only [Act.put, List.setIfInBounds_toArray, List.set_cons_zero, List.set_cons_succ]
      refine wpAnyY_take (i := 11) (v := ?_) rfl (by kernel_rfl) (by kernel_rfl) (by kernel_rfl) (by kernel_rfl) (fun _ _ _ h => h) (Or.inl ⟨by kernel_rfl, ?_⟩) hS ?_
      rotate_left
      · intro w' hSw; go_simp; with_reducible rfl
      try simp only [Act.put, List.setIfInBounds_toArray, List.set_cons_zero, List.set_cons_succ]
      refine wpAnyY_take (i := 12) (v := ?_) rfl (by kernel_rfl) (by kernel_rfl) (by kernel_rfl) (by kernel_rfl) (fun _ _ _ h => h) (Or.inl ⟨by kernel_rfl, ?_⟩) hS ?_
      rotate_left
      · intro w' hSw; obtain ⟨⟨y0, y1⟩, y2, y3⟩ := hSw; go_simp; with_reducible rfl
      try simp only [Act.put, List.setIfInBounds_toArray, List.set_cons_zero, List.set_cons_succ]
      refine wpAnyY_oneSW (i := 13) (by kernel_rfl) rfl (by kernel_rfl) (fun K13 hK13 => ?_)
      go_simp
      refine (HRU.out _).mono ?_
      rintro e w4 ⟨rfl, hG4⟩
      have g4 : G w3 w4 := (G.rf _).d.t hG4
      refine hK13.out _ _ (hSk _ g4) (fun hS => ?_)
      try simp only [Act.put, List.setIfInBounds_toArray, List.set_cons_zero, List.set_cons_succ]
      refine wpAnyY_take (i := 14) (v := ?_) rfl (by kernel_rfl) (by kernel_rfl) (by kernel_rfl) (by kernel_rfl) (fun _ _ _ h => h) (Or.inl ⟨by kernel_rfl, ?_⟩) hS ?_
      rotate_left
      · intro w' hSw; go_simp; with_reducible rfl
      try simp only [Act.put, List.setIfInBounds_toArray, List.set_cons_zero, List.set_cons_succ]
      refine wpAnyY_take (i := 15) (v := ?_) rfl (by kernel_rfl) (by kernel_rfl) (by kernel_rfl) (by kernel_rfl) (fun _ _ _ h => h) (Or.inl ⟨by kernel_rfl, ?_⟩) hS ?_
      rotate_left
      · intro w' hSw; go_simp; with_reducible rfl
      try simp only [Act.put, List.setIfInBounds_toArray, List.set_cons_zero, List.set_cons_succ]
      refine wpAnyY_oneSW (i := 16) (by kernel_rfl) rfl (by kernel_rfl) (fun K16 hK16 => ?_)
      go_simp
      refine hK16.out _ _ (hSk _ (g4.a _)) (fun hS => ?_)
      try simp only [Act.put, List.setIfInBounds_toArray, List.set_cons_zero, List.set_cons_succ]
      have g5 : G w3 (w4.alloc (.cells #[.int .i64 (px : Nat), .int .i64 (py : Nat), .int .i64 (fr / sh : Nat), .int .i64 ((fr + st + sl - 1) / sl : Nat)] 88)) := g4.a _
      refine wpAnyY_oneW (i := 17) (by kernel_rfl) rfl (by kernel_rfl) (by kernel_rfl) (fun K17 hK17 => ?_)
      refine wp_append_own _ _ _ 85 rfl wa.heap.size 88 i0 _ 4 32 Try.underlying85 hi0 hz0 hz1 hz2 rfl (by decide) _ q _ rfl (own_G HO.out (g3.t g5)) ⟨w4.heap.size, 0, none⟩ 1 1 [.int .i64 (px : Nat), .int .i64 (py : Nat), .int .i64 (fr / sh : Nat), .int .i64 ((fr + st + sl - 1) / sl : Nat)] rfl rfl (cells_four (Blk.new _ _ _)) (by simp [Value.oneCell']) (by unfold maxLen; omega) (by omega) (hGr.t (g3.t g5)).size ?_
      intro v9 w9 hown9 hg9 _
      have gz : G wa w9 := grow_own (hGr.t (g3.t g5)) (own_G HO.out (g3.t g5)) (Nat.le_refl _) hg9
      have HN := Lib.hid hown9
      clear hown9 hg9 hS
      refine hK17.out _ _ ?_
      try simp only [Act.put, List.setIfInBounds_toArray, List.set_cons_zero, List.set_cons_succ]
      refine wpAnyY_oneW (i := 18) (by kernel_rfl) rfl (by kernel_rfl) (by kernel_rfl) (fun K18 hK18 => ?_)
      go_simp
      refine hK18.out _ _ ?_
      try simp only [Act.put, List.setIfInBounds_toArray, List.set_cons_zero, List.set_cons_succ]
      refine wpAnyY_done (by kernel_rfl) ?_ _
      clear hK13 hK16 hK17 hK18 hSk
      go_wp2
      go_roundw
      case rel => exact ⟨q + 1, by omega, by go_num, by rw [HFS.out]; rfl, by rw [HSV.out]; exact HN.out, gz⟩
      case measure => simp [intOf]; omega
    · obtain rfl : q = P.length := by omega
      have hqi : ¬ ((P.length : Nat) : Int) < P.length := by omega
      have HF := Lib.hid (HPP.out wo _ (own_weaken HO.out hwa) (g0.t hGr))
      go_wp2
      exact HF.out
end
end Go.Proofs.Ytcekdljjmfkacaa
