import Derived.Test.YtpjfdfddcnocpaaUc
set_option linter.unusedSimpArgs false
set_option linter.unusedVariables false
namespace Go.Proofs.Ytpjfdfddcnocpaa
open Go.RowKit
attribute [local go_sem] Oper.semAt_some

/-- the places of a loft, as the document says -/
def plF (north wrong : Int) (cols lofts : Nat) (east : List Int) (svs : List Sv) (l : Nat) (P : List (Nat × Nat)) : List (Nat × Nat) :=
  P.filter fun p => decide ((fewSum north cols east svs lofts : Int) - (lowC north east svs l (allP cols east.length) : Int) + (cost north east svs l p : Int) ≤ wrong)
theorem filter_snoc {α : Type} [Inhabited α] (f : α → Bool) (l : List α) (k : Nat) (d : α) (h : k < l.length) : (l.take (k + 1)).filter f = if f (l.getD k d) then (l.take k).filter f ++ [l.getD k d] else (l.take k).filter f := by
  rw [List.take_succ_eq_append_getElem h, List.filter_append]
  have : l.getD k d = l[k] := by simp [h]
  rw [this]
  cases hh : f l[k] <;> simp [hh]
section
variable (north wrong : Int) (cols lofts l : Nat) (east : List Int) (svs : List Sv) (ea sa : Option Addr) (ec sc : Nat) (w : World)
def PlPost (w : World) (L : List (Nat × Nat)) (e : Ending) (w' : World) : Prop := ∃ v, e = .returned (.tuple #[v, .int .i64 0]) ∧ w'.ownsRow w.heap.size 27 2 v L.length (ptsV L) ∧ G w w'
set_option maxRecDepth 100000 in
set_option maxHeartbeats 8000000 in
theorem rPlacesF_ok (he : IntsAt w ea east) (hs : SvsAt w sa svs) (hk : checkE north cols east lofts svs wrong = 0) (hll : l < lofts) (hw : ¬ wrong < fewSum north cols east svs lofts) :
    Calls Try.prog 40 #[.agg #[.int .i64 north, .int .i64 cols, .slice ea east.length ec, .int .i64 lofts, .slice sa svs.length sc, .int .i64 wrong], .int .i64 l] w (PlPost w (plF north wrong cols lofts east svs l (allP cols east.length))) := by
  have hvb := vm_bounds (checkE_ok hk)
  have hl2 := (checkE_zero hk).2.1
  have hT := fun (W : World) (hW : G w W) => rCheckTruth_any north cols lofts wrong l l 0 east svs ea sa ec sc W (he.below hW) (hs.below hW) (by omega) (by omega)
  have hct : ctE north cols lofts wrong east svs l l 0 = 0 := by
    unfold ctE
    rw [if_pos hk, if_pos (by simp [isInB]; omega)]
    simp [hw]
  rw [hct] at hT
  have HT := Lib.hid hT
  have HPA := Lib.hid (fun (W : World) => rPlaces_all north wrong cols lofts east.length ea ec (.slice sa svs.length sc) W (by omega) (by omega))
  have HCO := Lib.hid (fun (W : World) (hW : G w W) => rCosts_any north wrong cols lofts east svs ea sa ec sc W (he.below hW) (hs.below hW) hk)
  have HLE := Lib.hid (rLeast_map hk)
  have hsf := sumM_few north cols lofts east svs (by omega) (by omega)
  have hlow := minA_low north cols east svs l (by omega) (by omega)
  have hfew : fewSum north cols east svs lofts ≤ 128 := Nat.le_trans (fewSum_le north cols east svs lofts hl2) (by omega)
  have hlo8 : lofts ≤ 8 := by omega
  have hPl := allP_len cols east.length
  have hN0 : 0 < (allP cols east.length).length := by
    rw [hPl]; exact Nat.mul_pos (by omega) (by omega)
  have hN1 : (allP cols east.length).length ≤ 100 := by
    rw [hPl]
    have : east.length * cols ≤ 10 * 10 := Nat.mul_le_mul (by omega) (by omega)
    omega
  have hcL : ∀ k, k < (allP cols east.length).length → (costsL north cols east svs l).getD k 0 = cost north east svs l ((allP cols east.length).getD k (0, 0)) := fun k hk => by unfold costsL; simp [hk]
  have hc16 : ∀ p, cost north east svs l p ≤ 16 := fun p => Nat.le_trans (cost_le _ _ _ _ _) hl2
  have hlw : lowC north east svs l (allP cols east.length) ≤ 16 := by
    obtain ⟨_, p, _, e⟩ := low_spec north cols east svs l (by omega) (by omega)
    rw [e]; exact hc16 p
  have hpf : ∀ P, plF north wrong cols lofts east svs l P = P.filter fun p => decide ((fewSum north cols east svs lofts : Int) - (lowC north east svs l (allP cols east.length) : Int) + (cost north east svs l p : Int) ≤ wrong) := fun P => rfl
  have hp1 : ∀ P, (plF north wrong cols lofts east svs l P).length ≤ P.length := fun P => List.length_filter_le _ _
  obtain ⟨P, hP⟩ : ∃ P, P = allP cols east.length := ⟨_, rfl⟩
  rw [← hP] at hN0 hN1 hcL hlw hpf hlow HPA HCO HLE ⊢
  have HP : Hid (∀ w' v, w'.ownsRow w.heap.size 27 2 v (plF north wrong cols lofts east svs l P).length (ptsV (plF north wrong cols lofts east svs l P)) → G w w' → PlPost w (plF north wrong cols lofts east svs l P) (.returned (.tuple #[v, .int .i64 0])) w') := fun w' v h1 h2 => ⟨v, rfl, h1, h2⟩
  generalize PlPost w (plF north wrong cols lofts east svs l P) = PP at *
  generalize plF north wrong cols lofts east svs l = pl at *
  have HPF := Lib.hid hpf
  have HP1 := Lib.hid hp1
  have HCL := Lib.hid hcL
  have HLW := Lib.hid hlow
  have HSF := Lib.hid hsf
  have HC16 := Lib.hid hc16
  clear hT hct hpf hp1 hcL hlow hsf hP hPl hk hvb hl2 hc16 hw
  have g0 : G w (w.alloc (.cells #[.int .i64 north, .int .i64 cols, .slice ea east.length ec, .int .i64 lofts, .slice sa svs.length sc, .int .i64 wrong] 25)) := (G.rf _).a _
  have b0 := Blk.new w 25 #[.int .i64 north, .int .i64 cols, .slice ea east.length ec, .int .i64 lofts, .slice sa svs.length sc, .int .i64 wrong]
  obtain ⟨i0, hi0, hz0, hz1, hz2⟩ := info_parts info27
  go_enter Try.func40, Try.ntmps40
  go_wp2_with (go_at_call 74; refine (HT.out _ g0).mono ?_; rintro e w1 ⟨rfl, hG1⟩; replace b0 := b0.keep hG1; replace g0 := g0.t hG1; clear hG1)
  have lM := b0.lt
  refine wp_region_Y (S := fun W' => Blk W' w.heap.size 25 #[.int .i64 north, .int .i64 cols, .slice ea east.length ec, .int .i64 lofts, .slice sa svs.length sc, .int .i64 wrong]) 5 6 rfl (by kernel_rfl) (b0.keep (G.rf _).d) (fun hS => ?_)
  refine wpAnyY_take (i := 0) (v := ?_) rfl (by kernel_rfl) (by kernel_rfl) (by kernel_rfl) (by kernel_rfl) (fun _ _ _ h => h) (Or.inl ⟨by kernel_rfl, ?_⟩) (by assumption) ?_
  rotate_left
  · intro w' hSw; have i0 := hSw.cell 0; have i1 := hSw.cell 1; have i2 := hSw.cell 2; have i3 := hSw.cell 3; have i4 := hSw.cell 4; have i5 := hSw.cell 5; go_simp; with_reducible rfl
  try simp only [Act.put, List.setIfInBounds_toArray, List.set_cons_zero, List.set_cons_succ]
  refine wpAnyY_take (i := 2) (v := ?_) rfl (by kernel_rfl) (by kernel_rfl) (by kernel_rfl) (by kernel_rfl) (fun _ _ _ h => h) (Or.inl ⟨by kernel_rfl, ?_⟩) (by assumption) ?_
  rotate_left
  · intro w' hSw; have i0 := hSw.cell 0; have i1 := hSw.cell 1; have i2 := hSw.cell 2; have i3 := hSw.cell 3; have i4 := hSw.cell 4; have i5 := hSw.cell 5; go_simp; with_reducible rfl
  try simp only [Act.put, List.setIfInBounds_toArray, List.set_cons_zero, List.set_cons_succ]
  refine wpAnyY_oneSW (i := 1) (by kernel_rfl) rfl (by kernel_rfl) (fun K1 hK1 => ?_)
  go_simp
  refine (HPA.out _).mono ?_
  rintro e wa ⟨vA, rfl, hownA, hGa⟩
  have ga := (G.t (G.d (G.rf _)) hGa)
  have gwa := g0.t ga
  refine hK1.out _ _ (b0.keep ga) (fun hS => ?_)
  try simp only [Act.put, List.setIfInBounds_toArray, List.set_cons_zero, List.set_cons_succ]
  refine wpAnyY_oneSW (i := 3) (by kernel_rfl) rfl (by kernel_rfl) (fun K3 hK3 => ?_)
  go_simp
  refine (HCO.out _ gwa).mono ?_
  rintro e wc ⟨gC, capC, rfl, hgC, hCA, hGc⟩
  have gwc := gwa.t hGc
  have bc := (b0.keep ga).keep hGc
  refine hK3.out _ _ bc (fun hS => ?_)
  try simp only [Act.put, List.setIfInBounds_toArray, List.set_cons_zero, List.set_cons_succ]
  refine wpAnyY_take (i := 4) (v := ?_) rfl (by kernel_rfl) (by kernel_rfl) (by kernel_rfl) (by kernel_rfl) (fun _ _ _ h => h) (Or.inl ⟨by kernel_rfl, ?_⟩) (by assumption) ?_
  rotate_left
  · intro w' hSw; go_simp; with_reducible rfl
  try simp only [Act.put, List.setIfInBounds_toArray, List.set_cons_zero, List.set_cons_succ]
  refine wpAnyY_oneW (i := 5) (by kernel_rfl) rfl (by kernel_rfl) (by kernel_rfl) (fun K5 hK5 => ?_)
  go_simp
  refine hK5.out _ _ ?_
  try simp only [Act.put, List.setIfInBounds_toArray, List.set_cons_zero, List.set_cons_succ]
  refine wpAnyY_done (by kernel_rfl) ?_ _
  clear hS hK1 hK3 hK5 b0 lM
  have hownC := own_G hownA hGc
  clear hownA hGa ga
  go_wp2_with (go_at_call 72; refine (HLE.out _ gC capC hgC hCA).mono ?_; rintro e wl ⟨vL, rfl, hownL, hGl⟩)
  obtain ⟨gL, capL, curL, eL, hbL, hgL, htL⟩ := own_some hownL (by omega)
  subst eL
  have cL : wl.cell? ⟨gL, l, none⟩ = some (.int .i64 (lowC north east svs l P : Nat)) := take_cell hbL htL (by omega) (by
    rw [← HLW.out]
    simp [natV, hll])
  obtain ⟨gA, capA, eA, hgA, hpt⟩ := pts_own rfl (own_G hownC hGl) hN0
  subst eA
  obtain ⟨gi, ci, cC, hgi, hcc⟩ := (hCA.keep hgC hGl) l hll
  have hgC2 := Nat.lt_of_lt_of_le hgC hGl.size
  have bw := bc.keep hGl
  have gww := gwc.t hGl
  have hli : (l : Int) < lofts := by omega
  have HCC := Lib.hid hcc
  have HPT := Lib.hid hpt
  rw [HSF.out]
  generalize fewSum north cols east svs lofts = F at *
  generalize lowC north east svs l P = lo at *
  clear hcc hpt hownC hownL hCA hgC hGl hGc bc gwc gwa g0 hbL htL HLE HCO HPA HT HLW HSF
  go_loopw [11, 12] (fun v i wr => ∃ k : Nat, k ≤ P.length ∧ i = .int .i64 k ∧ wr.ownsRow wl.heap.size 27 2 v (pl (P.take k)).length (ptsV (pl (P.take k))) ∧ G wl wr) (fun _ i _ => P.length - (intOf i).toNat)
  case atStart => exact ⟨0, Nat.zero_le _, rfl, by rw [List.take_zero, HPF.out]; exact World.ownsRow_nil _ _ _ _, G.rf _⟩
  case round =>
    obtain ⟨k, hk, rfl, hown, hGr⟩ := hrel
    obtain ⟨wo, rfl⟩ : ∃ wo, wo = wr := ⟨_, rfl⟩
    have HO := Lib.hid hown
    clear hown
    by_cases hlt : k < P.length
    · have hki : (k : Int) < P.length := by omega
      have hlen := HP1.out (P.take k)
      rw [List.length_take_of_le (by omega)] at hlen
      have b1 := bw.keep hGr
      have hc1 := ((bcellB hGr).1 gi _ hgi).trans (HCC.out k hlt)
      rw [HCL.out k hlt] at hc1
      obtain ⟨pt0, pt1⟩ := (HPT.out).keep hgA hGr k hlt
      have hsn := filter_snoc (fun p => decide ((F : Int) - (lo : Int) + (cost north east svs l p : Int) ≤ wrong)) P k (0, 0) hlt
      rw [← HPF.out, ← HPF.out] at hsn
      have hcb := HC16.out (P.getD k (0, 0))
      generalize P.getD k (0, 0) = p at *
      obtain ⟨px, py⟩ := p
      generalize cost north east svs l (px, py) = cc at *
      have x1 : IntKind.i64.wrap ((F : Int) - lo) = (F : Int) - lo := IntWalk.i64_in _ (by omega)
      have x2 : IntKind.i64.wrap ((F : Int) - lo + cc) = (F : Int) - lo + cc := IntWalk.i64_in _ (by omega)
      have m5 := b1.gw 5 rfl
      have c0 := GW.cell (((bcellB hGr).1 gL _ hgL).trans cL) (Nat.lt_of_lt_of_le hgL hGr.size)
      have c2 := GW.cell (((bcellB hGr).1 gC _ hgC2).trans cC) (Nat.lt_of_lt_of_le hgC2 hGr.size)
      have c3 := GW.cell hc1 (Nat.lt_of_lt_of_le hgi hGr.size)
      have l1 := b1.lt
      have HS := Lib.hid hsn
      clear hsn hc1 b1
      by_cases hle : (F : Int) - lo + cc ≤ wrong
      · have hS2 : pl (P.take (k + 1)) = pl (P.take k) ++ [(px, py)] := by rw [HS.out, if_pos (by simpa using hle)]
        have HS2 := Lib.hid hS2
        clear hS2 HS
        go_wp2
        refine wp_region_quiet_G (by kernel_rfl) (by kernel_rfl) ?_
        repeat (quiet_step (fail))
        refine wpQuiet_nil ?_
        intro _ hw'
        obtain ⟨y, rfl⟩ := hw'
        clear m5 c0 c2 c3
        have t0 := ((bcellB y.g).1 gA _ (Nat.lt_of_lt_of_le hgA hGr.size)).trans pt0
        have t1 := ((bcellB y.g).1 gA _ (Nat.lt_of_lt_of_le hgA hGr.size)).trans pt1
        have gy := hGr.t y.g
        have lA := Nat.lt_of_lt_of_le hgA gy.size
        clear pt0 pt1
        go_wp2_with (at_builtin; refine wpList_append_own _ rfl _ _ 36 rfl wl.heap.size 27 i0 _ 2 16 Try.underlying36 hi0 hz0 hz1 hz2 rfl (by decide) _ (pl (P.take k)).length (ptsV (pl (P.take k))) rfl ?hown ⟨_, 0, none⟩ 1 1 [.int .i64 px, .int .i64 py] rfl rfl (cell_two_new _ _ _ _) (by simp [Value.oneCell']) (by unfold maxLen; omega) (by omega) ?hbase ?hrest)
        case hown => exact own_G HO.out (y.g.a _)
        case hbase => exact (gy.a _).size
        case hrest =>
          intro v' w4 hown' hg4 hnil4
          have gX : G wo (y.w.alloc (.cells #[.int .i64 px, .int .i64 py] 27)) := y.g.a _
          have y2 := grow_own (hGr.t gX) (own_G HO.out gX) (Nat.le_refl _) hg4
          have HN := Lib.hid hown'
          clear hown' hg4 hnil4 gX
          go_wp2
          go_roundw
          case rel => exact ⟨k + 1, by omega, by go_num, by rw [HS2.out, ptsV_snoc, List.length_append]; exact HN.out, y2⟩
          case measure => simp [intOf]; omega
      · have hS2 : pl (P.take (k + 1)) = pl (P.take k) := by rw [HS.out, if_neg (by simpa using hle)]
        have HS2 := Lib.hid hS2
        clear hS2 HS
        go_wp2
        refine wp_region_quiet_G (by kernel_rfl) (by kernel_rfl) ?_
        repeat (quiet_step (fail))
        refine wpQuiet_nil ?_
        intro _ hw'
        obtain ⟨y, rfl⟩ := hw'
        clear m5 c0 c2 c3 pt0 pt1
        go_wp2
        go_roundw
        case rel => exact ⟨k + 1, by omega, by go_num, by rw [HS2.out]; exact own_G HO.out y.g, hGr.t y.g⟩
        case measure => simp [intOf]; omega
    · have hki : ¬ (k : Int) < P.length := by omega
      have hT : P.take k = P := List.take_of_length_le (by omega)
      rw [hT] at HO
      have HF := Lib.hid (HP.out wo _ (own_weaken HO.out gww.size) (gww.t hGr))
      clear hT
      go_wp2
      exact HF.out
end
end Go.Proofs.Ytpjfdfddcnocpaa
