import Derived.Test.YtpjfdfddcnocpaaUe
set_option linter.unusedSimpArgs false
set_option linter.unusedVariables false
namespace Go.Proofs.Ytpjfdfddcnocpaa
open Go.RowKit
attribute [local go_sem] Oper.semAt_some

/-- a survey that is wrong at all places of its loft -/
def blB (north wrong : Int) (cols lofts : Nat) (east : List Int) (svs : List Sv) (s : Sv) : Bool := (plF north wrong cols lofts east svs s.loft.toNat (allP cols east.length)).all fun p => !holdsB north east s p.1 p.2
theorem blB_eq {north wrong : Int} {cols lofts : Nat} {east : List Int} {svs : List Sv} {s : Sv} (hl : s.loft.toNat < lofts) (hw : ¬ wrong < fewSum north cols east svs lofts) :
    blB north wrong cols lofts east svs s = blamed north east (spotsOf north cols east svs) (wrong - fewSum north cols east svs lofts) s := by
  unfold blB blamed
  rw [← plF_eq hl hw, List.all_map]
  induction truthsOf (spotsOf north cols east svs) [s.loft.toNat] (wrong - fewSum north cols east svs lofts) with
  | nil => rfl
  | cons f L ih => simp only [List.all_cons, List.any_cons, Bool.not_or, ih, Function.comp]
theorem plF_ne {north wrong : Int} {cols lofts l : Nat} {east : List Int} {svs : List Sv} (hk : checkE north cols east lofts svs wrong = 0) (hl : l < lofts) (hw : ¬ wrong < fewSum north cols east svs lofts) : 0 < (plF north wrong cols lofts east svs l (allP cols east.length)).length := by
  rw [← plF_eq hl hw, List.length_map]
  exact List.length_pos_iff.2 (truths_ne (ls := [l]) hk hw)
theorem plF_len (north wrong : Int) (cols lofts l : Nat) (east : List Int) (svs : List Sv) (P : List (Nat × Nat)) : (plF north wrong cols lofts east svs l P).length ≤ P.length := List.length_filter_le _ _
theorem plF_mem {north wrong : Int} {cols lofts l : Nat} {east : List Int} {svs : List Sv} {p : Nat × Nat} (h : p ∈ plF north wrong cols lofts east svs l (allP cols east.length)) : p.1 < cols ∧ p.2 < east.length := allP_mem (List.mem_filter.1 h).1
theorem load27 (w : World) (g o : Nat) (x y : Int) (op : Oper) (ev : Operand → Value) (ho : op.op = .load 27 (.tmp 50)) (hv : ev (.tmp 50) = .pointer (some ⟨g, o, none⟩)) (h0 : w.cell? ⟨g, o, none⟩ = some (.int .i64 x)) (h1 : w.cell? ⟨g, o + 1, none⟩ = some (.int .i64 y)) :
    (execOp ev op).run Try.prog w = .ok (.value (.agg #[.int .i64 x, .int .i64 y])) w := by
  unfold execOp
  simp only [ho, hv]
  go_simp
section
variable (north wrong : Int) (cols lofts : Nat) (east : List Int) (svs : List Sv) (ea sa : Option Addr) (ec sc : Nat) (w : World)
set_option maxRecDepth 100000 in
set_option maxHeartbeats 8000000 in
theorem rBlame_ok (he : IntsAt w ea east) (hs : SvsAt w sa svs) (hk : checkE north cols east lofts svs wrong = 0) (hw : ¬ wrong < fewSum north cols east svs lofts) :
    Calls Try.prog 39 #[.agg #[.int .i64 north, .int .i64 cols, .slice ea east.length ec, .int .i64 lofts, .slice sa svs.length sc, .int .i64 wrong]] w (BlamePost w (blameK (blB north wrong cols lofts east svs) svs svs.length)) := by
  obtain ⟨hv, hl2, hso⟩ := checkE_zero hk
  have hvb := vm_bounds hv
  have hT := fun (W : World) (hW : G w W) => rCheckShow_any north cols lofts wrong east svs ea sa ec sc W (he.below hW) (hs.below hW) (by omega) (by omega)
  have hct : ctE north cols lofts wrong east svs 0 0 0 = 0 := by
    unfold ctE
    rw [if_pos hk, if_pos (by simp [isInB]; omega)]
    simp [hw]
  rw [hct] at hT
  have HT := Lib.hid hT
  have HPL := Lib.hid (fun (W : World) (hW : G w W) (l : Nat) (hl : l < lofts) => rPlacesF_ok north wrong cols lofts l east svs ea sa ec sc W (he.below hW) (hs.below hW) hk hl hw)
  have HWR := Lib.hid (fun (W : World) (hW : G w W) (s : Sv) (hs : svOk cols east.length lofts s = true) (p : Nat × Nat) (hp : p.1 < cols ∧ p.2 < east.length) => rWrong_any north cols lofts wrong p.1 p.2 east s ea ec (.slice sa svs.length sc) W (he.below hW) hv hs (by simp [isPlaceB, isInB]; omega))
  have HNE := Lib.hid (fun (l : Nat) (hl : l < lofts) => plF_ne hk hl hw)
  have HME := Lib.hid (fun (l : Nat) (p : Nat × Nat) (h : p ∈ plF north wrong cols lofts east svs l (allP cols east.length)) => plF_mem h)
  have hLE : ∀ l, (plF north wrong cols lofts east svs l (allP cols east.length)).length ≤ 100 := fun l => by
    refine Nat.le_trans (plF_len _ _ _ _ _ _ _ _) ?_
    rw [allP_len]
    have : east.length * cols ≤ 10 * 10 := Nat.mul_le_mul (by omega) (by omega)
    omega
  have HLE := Lib.hid hLE
  have hsof : ∀ k, k < svs.length → svOk cols east.length lofts (svs.getD k default) = true := fun k hk => by
    have := (List.all_eq_true.1 hso) svs[k] (List.getElem_mem hk)
    simpa [hk] using this
  have HSO := Lib.hid hsof
  have HBL : Hid (∀ s, blB north wrong cols lofts east svs s = (plF north wrong cols lofts east svs s.loft.toNat (allP cols east.length)).all fun p => !holdsB north east s p.1 p.2) := fun s => rfl
  unfold PlPost at HPL
  clear hT hct hLE hsof hso hv hk hw
  obtain ⟨pl, hpl⟩ : ∃ pl : Nat → List (Nat × Nat), ∀ l, plF north wrong cols lofts east svs l (allP cols east.length) = pl l := ⟨_, fun _ => rfl⟩
  simp only [hpl] at HPL HNE HME HLE HBL
  clear hpl
  generalize blB north wrong cols lofts east svs = bl at *
  have HP : Hid (∀ w' v, w'.ownsRow w.heap.size 3 1 v (blameK bl svs svs.length).length (natV (blameK bl svs svs.length)) → G w w' → BlamePost w (blameK bl svs svs.length) (.returned (.tuple #[v, .int .i64 0])) w') := fun w' v h1 h2 => ⟨v, rfl, h1, h2⟩
  generalize BlamePost w (blameK bl svs svs.length) = PP at *
  have g0 : G w (w.alloc (.cells #[.int .i64 north, .int .i64 cols, .slice ea east.length ec, .int .i64 lofts, .slice sa svs.length sc, .int .i64 wrong] 25)) := (G.rf _).a _
  have b0 := Blk.new w 25 #[.int .i64 north, .int .i64 cols, .slice ea east.length ec, .int .i64 lofts, .slice sa svs.length sc, .int .i64 wrong]
  obtain ⟨i0, hi0, hz0, hz1, hz2⟩ := info_parts info3
  go_enter Try.func39, Try.ntmps39
  go_wp2_with (go_at_call 48; refine (HT.out _ g0).mono ?_; rintro e w2 ⟨rfl, hG1⟩; replace b0 := b0.keep hG1; replace g0 := g0.t hG1; clear hG1)
  clear HT
  go_loopw [5, 6] (fun v i wr => ∃ k : Nat, k ≤ svs.length ∧ i = .int .i64 k ∧ wr.ownsRow w2.heap.size 3 1 v (blameK bl svs k).length (natV (blameK bl svs k)) ∧ G w2 wr) (fun _ i _ => svs.length - (intOf i).toNat)
  case atStart => exact ⟨0, Nat.zero_le _, rfl, World.ownsRow_nil _ _ _ _, G.rf _⟩
  case round =>
    obtain ⟨k, hk, rfl, hown, hGr⟩ := hrel
    obtain ⟨wo, rfl⟩ : ∃ wo, wo = wr := ⟨_, rfl⟩
    have HO := Lib.hid hown
    clear hown
    have hbk := blameK_len bl svs k
    have b1 := b0.keep hGr
    have m4 := b1.cell 4
    have l1 := b1.lt
    have gw := g0.t hGr
    by_cases hlt : k < svs.length
    · have hki : (k : Int) < svs.length := by omega
      rcases hs.below gw with rfl | ⟨b, off, rfl, hbb, hcell⟩
      · simp at hlt
      have hcx := hcell k hlt
      have hsx := HSO.out k hlt
      have hsc := blameK_succ bl svs k
      generalize svs.getD k default = s at hcx hsx hsc
      have hlo : ∃ l : Nat, s.loft = l ∧ l < lofts := by
        unfold svOk validSurveyB isInB at hsx
        simp at hsx
        exact ⟨s.loft.toNat, by omega, by omega⟩
      obtain ⟨l, hsl, hll⟩ := hlo
      have hbl := HBL.out s
      rw [hsl, Int.toNat_natCast] at hbl
      have hne := HNE.out l hll
      have hle := HLE.out l
      have HMX := Lib.hid (HME.out l)
      have HPL2 := Lib.hid (fun (W : World) (hW : G w W) => HPL.out W hW l hll)
      generalize pl l = L at *
      have HBL2 := Lib.hid hbl
      have HSC := Lib.hid hsc
      have HWR2 := Lib.hid (fun (W : World) (hW : G w W) (p : Nat × Nat) (hp : p.1 < cols ∧ p.2 < east.length) => HWR.out W hW s hsx p hp)
      obtain ⟨x0, x1, x2, x3, x4, x5, x6, x7, x8, x9⟩ := hcx
      clear hbl hsc hsx hcell
      have xl := x0
      rw [hsl] at xl
      have e50 : off + k * 10 + 0 = off + k * 10 := rfl
      go_wp2
      refine wp_region_Y (S := fun W' => Blk W' w.heap.size 25 #[.int .i64 north, .int .i64 cols, .slice ea east.length ec, .int .i64 lofts, .slice (some ⟨b, off, none⟩) svs.length sc, .int .i64 wrong] ∧ W'.cell? ⟨b, off + k * 10, none⟩ = some (.int .i64 l)) 12 13 rfl (by kernel_rfl) ⟨b1.keep (G.rf _).d, xl⟩ (fun hS => ?_)
      refine wpAnyY_take (i := 0) (v := ?_) rfl (by kernel_rfl) (by kernel_rfl) (by kernel_rfl) (by kernel_rfl) (fun _ _ _ h => h) (Or.inl ⟨by kernel_rfl, ?_⟩) hS ?_
      rotate_left
      · intro w' hSw; have i0 := hSw.1.cell 0; have i1 := hSw.1.cell 1; have i2 := hSw.1.cell 2; have i3 := hSw.1.cell 3; have i4 := hSw.1.cell 4; have i5 := hSw.1.cell 5; go_simp; with_reducible rfl
      try simp only [Act.put, List.setIfInBounds_toArray, List.set_cons_zero, List.set_cons_succ]
      refine wpAnyY_take (i := 1) (v := ?_) rfl (by kernel_rfl) (by kernel_rfl) (by kernel_rfl) (by kernel_rfl) (fun _ _ _ h => h) (Or.inl ⟨by kernel_rfl, ?_⟩) hS ?_
      rotate_left
      · intro w' hSw; go_simp; with_reducible rfl
      try simp only [Act.put, List.setIfInBounds_toArray, List.set_cons_zero, List.set_cons_succ]
      refine wpAnyY_take (i := 2) (v := ?_) rfl (by kernel_rfl) (by kernel_rfl) (by kernel_rfl) (by kernel_rfl) (fun _ _ _ h => h) (Or.inl ⟨by kernel_rfl, ?_⟩) hS ?_
      rotate_left
      · intro w' hSw; have i0 := hSw.1.cell 0; have i1 := hSw.1.cell 1; have i2 := hSw.1.cell 2; have i3 := hSw.1.cell 3; have i4 := hSw.1.cell 4; have i5 := hSw.1.cell 5; go_simp; with_reducible rfl
      try simp only [Act.put, List.setIfInBounds_toArray, List.set_cons_zero, List.set_cons_succ]
      refine wpAnyY_take (i := 3) (v := ?_) rfl (by kernel_rfl) (by kernel_rfl) (by kernel_rfl) (by kernel_rfl) (fun _ _ _ h => h) (Or.inl ⟨by kernel_rfl, ?_⟩) hS ?_
      rotate_left
      · intro w' hSw; go_simp; with_reducible rfl
      try simp only [Act.put, List.setIfInBounds_toArray, List.set_cons_zero, List.set_cons_succ]
      refine wpAnyY_take (i := 4) (v := ?_) rfl (by kernel_rfl) (by kernel_rfl) (by kernel_rfl) (by kernel_rfl) (fun _ _ _ h => h) (Or.inl ⟨by kernel_rfl, ?_⟩) hS ?_
      rotate_left
      · intro w' hSw; go_simp; with_reducible rfl
      try simp only [Act.put, List.setIfInBounds_toArray, List.set_cons_zero, List.set_cons_succ]
      refine wpAnyY_take (i := 5) (v := ?_) rfl (by kernel_rfl) (by kernel_rfl) (by kernel_rfl) (by kernel_rfl) (fun _ _ _ h => h) (Or.inl ⟨by kernel_rfl, ?_⟩) hS ?_
      rotate_left
      · intro w' hSw; go_simp; with_reducible rfl
      try simp only [Act.put, List.setIfInBounds_toArray, List.set_cons_zero, List.set_cons_succ]
      refine wpAnyY_take (i := 6) (v := ?_) rfl (by kernel_rfl) (by kernel_rfl) (by kernel_rfl) (by kernel_rfl) (fun _ _ _ h => h) (Or.inl ⟨by kernel_rfl, ?_⟩) hS ?_
      rotate_left
      · intro w' hSw; have y0 := hSw.2; go_simp; with_reducible rfl
      try simp only [Act.put, List.setIfInBounds_toArray, List.set_cons_zero, List.set_cons_succ]
      refine wpAnyY_oneSW (i := 7) (by kernel_rfl) rfl (by kernel_rfl) (fun K7 hK7 => ?_)
      go_simp
      refine (HPL2.out _ gw.d).mono ?_
      rintro e w3 ⟨vP, rfl, hownP, hG3⟩
      have gd := ((G.rf wo).d).t hG3
      have b3 := b1.keep gd
      refine hK7.out _ _ ⟨b3, ((bcellB gd).1 b _ hbb).trans xl⟩ (fun hS => ?_)
      try simp only [Act.put, List.setIfInBounds_toArray, List.set_cons_zero, List.set_cons_succ]
      refine wpAnyY_take (i := 8) (v := ?_) rfl (by kernel_rfl) (by kernel_rfl) (by kernel_rfl) (by kernel_rfl) (fun _ _ _ h => h) (Or.inl ⟨by kernel_rfl, ?_⟩) hS ?_
      rotate_left
      · intro w' hSw; go_simp; with_reducible rfl
      try simp only [Act.put, List.setIfInBounds_toArray, List.set_cons_zero, List.set_cons_succ]
      refine wpAnyY_take (i := 9) (v := ?_) rfl (by kernel_rfl) (by kernel_rfl) (by kernel_rfl) (by kernel_rfl) (fun _ _ _ h => h) (Or.inl ⟨by kernel_rfl, ?_⟩) hS ?_
      rotate_left
      · intro w' hSw; go_simp; with_reducible rfl
      try simp only [Act.put, List.setIfInBounds_toArray, List.set_cons_zero, List.set_cons_succ]
      refine wpAnyY_take (i := 10) (v := ?_) rfl (by kernel_rfl) (by kernel_rfl) (by kernel_rfl) (by kernel_rfl) (fun _ _ _ h => h) (Or.inl ⟨by kernel_rfl, ?_⟩) hS ?_
      rotate_left
      · intro w' hSw; go_simp; with_reducible rfl
      try simp only [Act.put, List.setIfInBounds_toArray, List.set_cons_zero, List.set_cons_succ]
      refine wpAnyY_take (i := 11) (v := ?_) rfl (by kernel_rfl) (by kernel_rfl) (by kernel_rfl) (by kernel_rfl) (fun _ _ _ h => h) (Or.inl ⟨by kernel_rfl, ?_⟩) hS ?_
      rotate_left
      · intro w' hSw; go_simp; with_reducible rfl
      try simp only [Act.put, List.setIfInBounds_toArray, List.set_cons_zero, List.set_cons_succ]
      refine wpAnyY_oneW (i := 12) (by kernel_rfl) rfl (by kernel_rfl) (by kernel_rfl) (fun K12 hK12 => ?_)
      go_simp
      refine hK12.out _ _ ?_
      try simp only [Act.put, List.setIfInBounds_toArray, List.set_cons_zero, List.set_cons_succ]
      refine wpAnyY_done (by kernel_rfl) ?_ _
      clear hS hK7 hK12 m4 l1
      obtain ⟨gP, capP, eP, hgP, hpt⟩ := pts_own rfl hownP hne
      subst eP
      have HPT := Lib.hid hpt
      have gw3 := gw.t gd
      clear hownP hpt hG3
      have z0 := ((bcellB gd).1 b _ hbb).trans x0
      have z1 := ((bcellB gd).1 b _ hbb).trans x1
      have z2 := ((bcellB gd).1 b _ hbb).trans x2
      have z3 := ((bcellB gd).1 b _ hbb).trans x3
      have z4 := ((bcellB gd).1 b _ hbb).trans x4
      have z5 := ((bcellB gd).1 b _ hbb).trans x5
      have z6 := ((bcellB gd).1 b _ hbb).trans x6
      have z7 := ((bcellB gd).1 b _ hbb).trans x7
      have z8 := ((bcellB gd).1 b _ hbb).trans x8
      have z9 := ((bcellB gd).1 b _ hbb).trans x9
      have hb3 := Nat.lt_of_lt_of_le hbb gd.size
      clear x0 x1 x2 x3 x4 x5 x6 x7 x8 x9 xl b1 hsl
      go_wp2
      go_loopw [9, 10] (fun a i wi => ∃ x : Nat, x ≤ L.length ∧ i = .int .i64 x ∧ a = .bool ((L.take x).all fun p => !holdsB north east s p.1 p.2) ∧ G w3 wi) (fun _ i _ => L.length - (intOf i).toNat)
      case atStart => exact ⟨0, Nat.zero_le _, rfl, rfl, G.rf _⟩
      case round =>
        obtain ⟨x, hx, rfl, rfl, hGi⟩ := hrel
        obtain ⟨wi, rfl⟩ : ∃ wi, wi = wr := ⟨_, rfl⟩
        by_cases hlt2 : x < L.length
        · have hxi : (x : Int) < L.length := by omega
          obtain ⟨c0, c1⟩ := HPT.out.keep hgP hGi x hlt2
          have hm := HMX.out (L.getD x (0, 0)) (by simp [hlt2])
          have hs1 : (L.take (x + 1)).all (fun p => !holdsB north east s p.1 p.2) = ((L.take x).all (fun p => !holdsB north east s p.1 p.2) && !holdsB north east s (L.getD x (0, 0)).1 (L.getD x (0, 0)).2) := by
            rw [List.take_succ_eq_append_getElem hlt2, List.all_append]
            simp [hlt2]
          generalize L.getD x (0, 0) = p at *
          have HW3 := Lib.hid (fun (W : World) (hW : G wi W) => HWR2.out W (gw3.t (hGi.t hW)) p hm)
          obtain ⟨px, py⟩ := p
          simp only at HW3 hs1 c0 c1
          generalize (L.take x).all (fun p => !holdsB north east s p.1 p.2) = A at *
          generalize holdsB north east s px py = H at *
          have HS1 := Lib.hid hs1
          have b4 := b3.keep hGi
          have lb := Nat.lt_of_lt_of_le hb3 hGi.size
          have lP := Nat.lt_of_lt_of_le hgP hGi.size
          have l4 := b4.lt
          have m4 := b4.cell 4
          have y0 := ((bcellB hGi).1 b _ hb3).trans z0
          have y1 := ((bcellB hGi).1 b _ hb3).trans z1
          have y2 := ((bcellB hGi).1 b _ hb3).trans z2
          have y3 := ((bcellB hGi).1 b _ hb3).trans z3
          have y4 := ((bcellB hGi).1 b _ hb3).trans z4
          have y5 := ((bcellB hGi).1 b _ hb3).trans z5
          have y6 := ((bcellB hGi).1 b _ hb3).trans z6
          have y7 := ((bcellB hGi).1 b _ hb3).trans z7
          have y8 := ((bcellB hGi).1 b _ hb3).trans z8
          have y9 := ((bcellB hGi).1 b _ hb3).trans z9
          have HSV : Hid (SvCells wi b (off + k * 10) s) := ⟨y0, y1, y2, y3, y4, y5, y6, y7, y8, y9⟩
          clear hs1 hm z0 z1 z2 z3 z4 z5 z6 z7 z8 z9 y0 y1 y2 y3 y4 y5 y6 y7 y8 y9
          cases A
          · go_wp2
            clear m4
            refine wp_region_Y (S := fun _ => True) 14 15 rfl (by kernel_rfl) trivial (fun hS => ?_)
            refine wpAnyY_take (i := 0) (v := ?_) rfl (by kernel_rfl) (by kernel_rfl) (by kernel_rfl) (by kernel_rfl) (fun _ _ _ h => h) (Or.inl ⟨by kernel_rfl, ?_⟩) hS ?_
            rotate_left
            · intro w' hSw; go_simp; with_reducible rfl
            try simp only [Act.put, List.setIfInBounds_toArray, List.set_cons_zero, List.set_cons_succ]
            refine wpAnyY_take (i := 1) (v := ?_) rfl (by kernel_rfl) (by kernel_rfl) (by kernel_rfl) (by kernel_rfl) (fun _ _ _ h => h) (Or.inl ⟨by kernel_rfl, ?_⟩) hS ?_
            rotate_left
            · intro w' hSw; go_simp; with_reducible rfl
            try simp only [Act.put, List.setIfInBounds_toArray, List.set_cons_zero, List.set_cons_succ]
            refine wpAnyY_take (i := 2) (v := undef) rfl (by kernel_rfl) (by kernel_rfl) (by kernel_rfl) (by kernel_rfl) (fun _ _ _ h => h) (Or.inr ⟨by kernel_rfl, rfl⟩) hS ?_
            try simp only [Act.put, List.setIfInBounds_toArray, List.set_cons_zero, List.set_cons_succ]
            refine wpAnyY_take (i := 3) (v := undef) rfl (by kernel_rfl) (by kernel_rfl) (by kernel_rfl) (by kernel_rfl) (fun _ _ _ h => h) (Or.inr ⟨by kernel_rfl, rfl⟩) hS ?_
            try simp only [Act.put, List.setIfInBounds_toArray, List.set_cons_zero, List.set_cons_succ]
            refine wpAnyY_take (i := 4) (v := undef) rfl (by kernel_rfl) (by kernel_rfl) (by kernel_rfl) (by kernel_rfl) (fun _ _ _ h => h) (Or.inr ⟨by kernel_rfl, rfl⟩) hS ?_
            try simp only [Act.put, List.setIfInBounds_toArray, List.set_cons_zero, List.set_cons_succ]
            refine wpAnyY_take (i := 5) (v := undef) rfl (by kernel_rfl) (by kernel_rfl) (by kernel_rfl) (by kernel_rfl) (fun _ _ _ h => h) (Or.inr ⟨by kernel_rfl, rfl⟩) hS ?_
            try simp only [Act.put, List.setIfInBounds_toArray, List.set_cons_zero, List.set_cons_succ]
            refine wpAnyY_take (i := 6) (v := undef) rfl (by kernel_rfl) (by kernel_rfl) (by kernel_rfl) (by kernel_rfl) (fun _ _ _ h => h) (Or.inr ⟨by kernel_rfl, rfl⟩) hS ?_
            try simp only [Act.put, List.setIfInBounds_toArray, List.set_cons_zero, List.set_cons_succ]
            refine wpAnyY_take (i := 7) (v := undef) rfl (by kernel_rfl) (by kernel_rfl) (by kernel_rfl) (by kernel_rfl) (fun _ _ _ h => h) (Or.inr ⟨by kernel_rfl, rfl⟩) hS ?_
            try simp only [Act.put, List.setIfInBounds_toArray, List.set_cons_zero, List.set_cons_succ]
            refine wpAnyY_take (i := 8) (v := undef) rfl (by kernel_rfl) (by kernel_rfl) (by kernel_rfl) (by kernel_rfl) (fun _ _ _ h => h) (Or.inr ⟨by kernel_rfl, rfl⟩) hS ?_
            try simp only [Act.put, List.setIfInBounds_toArray, List.set_cons_zero, List.set_cons_succ]
            refine wpAnyY_take (i := 9) (v := undef) rfl (by kernel_rfl) (by kernel_rfl) (by kernel_rfl) (by kernel_rfl) (fun _ _ _ h => h) (Or.inr ⟨by kernel_rfl, rfl⟩) hS ?_
            try simp only [Act.put, List.setIfInBounds_toArray, List.set_cons_zero, List.set_cons_succ]
            refine wpAnyY_take (i := 10) (v := undef) rfl (by kernel_rfl) (by kernel_rfl) (by kernel_rfl) (by kernel_rfl) (fun _ _ _ h => h) (Or.inr ⟨by kernel_rfl, rfl⟩) hS ?_
            try simp only [Act.put, List.setIfInBounds_toArray, List.set_cons_zero, List.set_cons_succ]
            refine wpAnyY_take (i := 11) (v := undef) rfl (by kernel_rfl) (by kernel_rfl) (by kernel_rfl) (by kernel_rfl) (fun _ _ _ h => h) (Or.inr ⟨by kernel_rfl, rfl⟩) hS ?_
            try simp only [Act.put, List.setIfInBounds_toArray, List.set_cons_zero, List.set_cons_succ]
            refine wpAnyY_take (i := 12) (v := undef) rfl (by kernel_rfl) (by kernel_rfl) (by kernel_rfl) (by kernel_rfl) (fun _ _ _ h => h) (Or.inr ⟨by kernel_rfl, rfl⟩) hS ?_
            try simp only [Act.put, List.setIfInBounds_toArray, List.set_cons_zero, List.set_cons_succ]
            refine wpAnyY_take (i := 13) (v := ?_) rfl (by kernel_rfl) (by kernel_rfl) (by kernel_rfl) (by kernel_rfl) (fun _ _ _ h => h) (Or.inl ⟨by kernel_rfl, ?_⟩) hS ?_
            rotate_left
            · intro w' hSw; go_simp; with_reducible rfl
            try simp only [Act.put, List.setIfInBounds_toArray, List.set_cons_zero, List.set_cons_succ]
            refine wpAnyY_oneW (i := 14) (by kernel_rfl) rfl (by kernel_rfl) (by kernel_rfl) (fun K14 hK14 => ?_)
            go_simp
            refine hK14.out _ _ ?_
            try simp only [Act.put, List.setIfInBounds_toArray, List.set_cons_zero, List.set_cons_succ]
            refine wpAnyY_done (by kernel_rfl) ?_ _
            clear hS hK14
            go_wp2
            go_roundw
            case rel => exact ⟨x + 1, by omega, by go_num, by rw [HS1.out]; rfl, hGi.d⟩
            case measure => simp [intOf]; omega
          · go_wp2
            clear m4
            refine wp_region_Y (S := fun W' => (Blk W' w.heap.size 25 #[.int .i64 north, .int .i64 cols, .slice ea east.length ec, .int .i64 lofts, .slice (some ⟨b, off, none⟩) svs.length sc, .int .i64 wrong] ∧ SvCells W' b (off + k * 10) s) ∧ (W'.cell? ⟨gP, x * 2, none⟩ = some (.int .i64 px) ∧ W'.cell? ⟨gP, x * 2 + 1, none⟩ = some (.int .i64 py))) 12 15 rfl (by kernel_rfl) ⟨⟨b4.keep (G.rf _).d, HSV.out⟩, c0, c1⟩ (fun hS => ?_)
            refine wpAnyY_take (i := 0) (v := ?_) rfl (by kernel_rfl) (by kernel_rfl) (by kernel_rfl) (by kernel_rfl) (fun _ _ _ h => h) (Or.inl ⟨by kernel_rfl, ?_⟩) hS ?_
            rotate_left
            · intro w' hSw; go_simp; with_reducible rfl
            try simp only [Act.put, List.setIfInBounds_toArray, List.set_cons_zero, List.set_cons_succ]
            refine wpAnyY_take (i := 1) (v := ?_) rfl (by kernel_rfl) (by kernel_rfl) (by kernel_rfl) (by kernel_rfl) (fun _ _ _ h => h) (Or.inl ⟨by kernel_rfl, ?_⟩) hS ?_
            rotate_left
            · intro w' hSw; go_simp; with_reducible rfl
            try simp only [Act.put, List.setIfInBounds_toArray, List.set_cons_zero, List.set_cons_succ]
            refine wpAnyY_take (i := 2) (v := ?_) rfl (by kernel_rfl) (by kernel_rfl) (by kernel_rfl) (by kernel_rfl) (fun _ _ _ h => h) (Or.inl ⟨by kernel_rfl, ?_⟩) hS ?_
            rotate_left
            · intro w' hSw; have i0 := hSw.1.1.cell 0; have i1 := hSw.1.1.cell 1; have i2 := hSw.1.1.cell 2; have i3 := hSw.1.1.cell 3; have i4 := hSw.1.1.cell 4; have i5 := hSw.1.1.cell 5; go_simp; with_reducible rfl
            try simp only [Act.put, List.setIfInBounds_toArray, List.set_cons_zero, List.set_cons_succ]
            refine wpAnyY_take (i := 3) (v := ?_) rfl (by kernel_rfl) (by kernel_rfl) (by kernel_rfl) (by kernel_rfl) (fun _ _ _ h => h) (Or.inl ⟨by kernel_rfl, ?_⟩) hS ?_
            rotate_left
            · intro w' hSw; go_simp; with_reducible rfl
            try simp only [Act.put, List.setIfInBounds_toArray, List.set_cons_zero, List.set_cons_succ]
            refine wpAnyY_take (i := 4) (v := ?_) rfl (by kernel_rfl) (by kernel_rfl) (by kernel_rfl) (by kernel_rfl) (fun _ _ _ h => h) (Or.inl ⟨by kernel_rfl, ?_⟩) hS ?_
            rotate_left
            · intro w' hSw; have i0 := hSw.1.1.cell 0; have i1 := hSw.1.1.cell 1; have i2 := hSw.1.1.cell 2; have i3 := hSw.1.1.cell 3; have i4 := hSw.1.1.cell 4; have i5 := hSw.1.1.cell 5; go_simp; with_reducible rfl
            try simp only [Act.put, List.setIfInBounds_toArray, List.set_cons_zero, List.set_cons_succ]
            refine wpAnyY_take (i := 5) (v := ?_) rfl (by kernel_rfl) (by kernel_rfl) (by kernel_rfl) (by kernel_rfl) (fun _ _ _ h => h) (Or.inl ⟨by kernel_rfl, ?_⟩) hS ?_
            rotate_left
            · intro w' hSw; go_simp; with_reducible rfl
            try simp only [Act.put, List.setIfInBounds_toArray, List.set_cons_zero, List.set_cons_succ]
            refine wpAnyY_take (i := 6) (v := ?_) rfl (by kernel_rfl) (by kernel_rfl) (by kernel_rfl) (by kernel_rfl) (fun _ _ _ h => h) (Or.inl ⟨by kernel_rfl, ?_⟩) hS ?_
            rotate_left
            · intro w' hSw; go_simp; with_reducible rfl
            try simp only [Act.put, List.setIfInBounds_toArray, List.set_cons_zero, List.set_cons_succ]
            refine wpAnyY_take (i := 7) (v := ?_) rfl (by kernel_rfl) (by kernel_rfl) (by kernel_rfl) (by kernel_rfl) (fun _ _ _ h => h) (Or.inl ⟨by kernel_rfl, ?_⟩) hS ?_
            rotate_left
            · intro w' hSw; obtain ⟨y0, y1, y2, y3, y4, y5, y6, y7, y8, y9⟩ := hSw.1.2; go_simp; with_reducible rfl
            try simp only [Act.put, List.setIfInBounds_toArray, List.set_cons_zero, List.set_cons_succ]
            refine wpAnyY_take (i := 8) (v := ?_) rfl (by kernel_rfl) (by kernel_rfl) (by kernel_rfl) (by kernel_rfl) (fun _ _ _ h => h) (Or.inl ⟨by kernel_rfl, ?_⟩) hS ?_
            rotate_left
            · intro w' hSw; go_simp; with_reducible rfl
            try simp only [Act.put, List.setIfInBounds_toArray, List.set_cons_zero, List.set_cons_succ]
            refine wpAnyY_take (i := 9) (v := ?_) rfl (by kernel_rfl) (by kernel_rfl) (by kernel_rfl) (by kernel_rfl) (fun _ _ _ h => h) (Or.inl ⟨by kernel_rfl, ?_⟩) hS ?_
            rotate_left
            · intro w' hSw; go_simp; with_reducible rfl
            try simp only [Act.put, List.setIfInBounds_toArray, List.set_cons_zero, List.set_cons_succ]
            refine wpAnyY_take (i := 10) (v := ?_) rfl (by kernel_rfl) (by kernel_rfl) (by kernel_rfl) (by kernel_rfl) (fun _ _ _ h => h) (Or.inl ⟨by kernel_rfl, ?_⟩) hS ?_
            rotate_left
            · intro w' hSw; go_simp; with_reducible rfl
            try simp only [Act.put, List.setIfInBounds_toArray, List.set_cons_zero, List.set_cons_succ]
            refine wpAnyY_take (i := 11) (v := .agg #[.int .i64 px, .int .i64 py]) rfl (by kernel_rfl) (by kernel_rfl) (by kernel_rfl) (by kernel_rfl) (fun _ _ _ h => h) (Or.inl ⟨by kernel_rfl, ?_⟩) hS ?_
            · intro w' hSw; exact load27 w' gP (x * 2) px py _ _ rfl (by kernel_rfl) hSw.2.1 hSw.2.2
            try simp only [Act.put, List.setIfInBounds_toArray, List.set_cons_zero, List.set_cons_succ]
            refine wpAnyY_oneW (i := 12) (by kernel_rfl) rfl (by kernel_rfl) (by kernel_rfl) (fun K12 hK12 => ?_)
            go_simp
            refine (HW3.out _ (G.rf _).d).mono ?_
            rintro e w5 ⟨rfl, hG5⟩
            refine hK12.out _ _ ?_
            try simp only [Act.put, List.setIfInBounds_toArray, List.set_cons_zero, List.set_cons_succ]
            refine wpAnyY_oneW (i := 13) (by kernel_rfl) rfl (by kernel_rfl) (by kernel_rfl) (fun K13 hK13 => ?_)
            go_simp
            refine hK13.out _ _ ?_
            try simp only [Act.put, List.setIfInBounds_toArray, List.set_cons_zero, List.set_cons_succ]
            refine wpAnyY_oneW (i := 14) (by kernel_rfl) rfl (by kernel_rfl) (by kernel_rfl) (fun K14 hK14 => ?_)
            go_simp
            refine hK14.out _ _ ?_
            try simp only [Act.put, List.setIfInBounds_toArray, List.set_cons_zero, List.set_cons_succ]
            refine wpAnyY_done (by kernel_rfl) ?_ _
            clear hS hK12 hK13 hK14 c0 c1
            go_wp2
            go_roundw
            case rel => exact ⟨x + 1, by omega, by go_num, by rw [HS1.out]; cases H <;> rfl, hGi.t (G.t ((G.rf wi).d) hG5)⟩
            case measure => simp [intOf]; omega
        · have hxi : ¬ (x : Int) < L.length := by omega
          have hT : L.take x = L := List.take_of_length_le (by omega)
          rw [hT, ← HBL2.out]
          clear hT z0 z1 z2 z3 z4 z5 z6 z7 z8 z9
          have gwi := hGr.t (gd.t hGi)
          cases hb : bl s
          · have hsc := HSC.out
            rw [hb, if_neg (by simp)] at hsc
            have HS := Lib.hid hsc
            clear hsc
            go_wp2
            go_roundw
            case rel => exact ⟨k + 1, by omega, by go_num, by rw [HS.out]; exact own_G HO.out (gd.t hGi), gwi⟩
            case measure => simp [intOf]; omega
          · have hsc := HSC.out
            rw [hb, if_pos rfl] at hsc
            have HS := Lib.hid hsc
            clear hsc
            go_wp2_with (at_builtin; refine wpList_append_own _ rfl _ _ 22 rfl w2.heap.size 3 i0 (.int .i64 0) 1 8 Try.underlying22 hi0 hz0 hz1 hz2 rfl (by decide) _ (blameK bl svs k).length (natV (blameK bl svs k)) rfl ?hown ⟨_, 0, none⟩ 1 1 [.int .i64 k] rfl rfl (cell_one_new _ _ _) (by simp [Value.oneCell']) (by unfold maxLen; omega) (by omega) ?hbase ?hrest)
            case hown => exact own_G HO.out ((gd.t hGi).a _)
            case hbase => exact Nat.le_succ_of_le gwi.size
            case hrest =>
              intro v' w4 hown' hg4 hnil4
              have gX : G wo (wi.alloc (.cells #[.int .i64 k] 3)) := (gd.t hGi).a _
              have y2 := grow_own (hGr.t gX) (own_G HO.out gX) (Nat.le_refl _) hg4
              have HN := Lib.hid hown'
              clear hown' hg4 hnil4 gX
              go_wp2
              go_roundw
              case rel => exact ⟨k + 1, by omega, by go_num, by rw [HS.out]; simpa [natV] using HN.out, y2⟩
              case measure => simp [intOf]; omega
    · have hki : ¬ (k : Int) < svs.length := by omega
      obtain rfl : k = svs.length := by omega
      have HF := Lib.hid (HP.out wo _ (own_weaken HO.out g0.size) gw)
      go_wp2
      exact HF.out
end
end Go.Proofs.Ytpjfdfddcnocpaa
