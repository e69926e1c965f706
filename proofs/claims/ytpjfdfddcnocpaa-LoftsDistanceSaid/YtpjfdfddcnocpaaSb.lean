import Derived.Test.YtpjfdfddcnocpaaSa
import Derived.Test.YtpjfdfddcnocpaaTd
set_option linter.unusedSimpArgs false
set_option linter.unusedVariables false
namespace Go.Proofs.Ytpjfdfddcnocpaa
open Go.RowKit
attribute [local go_sem] Oper.semAt_some

theorem info22 : (Try.prog.info? 22).map (fun i => (i.zero, i.size, i.bytes)) = some (some (.slice none 0 0), 1, 24) := by kernel_rfl
theorem own_own {W : World} {b1 b2 s1 s2 n1 n2 : Nat} {e1 e2 : TypeId} {v1 v2 : Value} {xs1 xs2 : List Value} (h1 : W.ownsRow b1 e1 s1 v1 n1 xs1) (h2 : W.ownsRow b2 e2 s2 v2 n2 xs2) (hne : e1 ≠ e2) : v1.ownBlock = none ∨ v1.ownBlock ≠ v2.ownBlock := by
  rcases h1.2 with ⟨rfl, _⟩ | ⟨g, cap, cur, rfl, _, hb, _⟩
  · exact .inl rfl
  · exact .inr (own_ne h2 (show Blk W g e1 cur from hb) hne)
theorem own_some {W : World} {b s n : Nat} {e : TypeId} {v : Value} {xs : List Value} (h : W.ownsRow b e s v n xs) (hn : 0 < n) : ∃ g cap cur, v = .slice (some ⟨g, 0, none⟩) n cap ∧ Blk W g e cur ∧ g < W.heap.size ∧ cur.toList.take (n * s) = xs := by
  rcases h.2 with ⟨_, h0⟩ | ⟨g, cap, cur, rfl, _, hb, _, _, _, ht⟩
  · omega
  · exact ⟨g, cap, cur, rfl, hb, (Array.getElem?_eq_some_iff.1 hb).1, ht⟩
theorem take_cell {W : World} {g : Nat} {e : TypeId} {cur : Array Value} {n : Nat} {xs : List Value} (h : Blk W g e cur) (ht : cur.toList.take n = xs) {k : Nat} (hk : k < n) {v : Value} (hx : xs[k]? = some v) : W.cell? ⟨g, k, none⟩ = some v := by
  rw [h.cell k]
  rw [← ht, List.getElem?_take_of_lt hk] at hx
  simpa using hx
theorem pts_own {W : World} {b n : Nat} {v : Value} {P : List (Nat × Nat)} (hn : n = P.length) (h : W.ownsRow b 27 2 v n (ptsV P)) (h0 : 0 < n) : ∃ g cap, v = .slice (some ⟨g, 0, none⟩) P.length cap ∧ g < W.heap.size ∧ PtsAt W g P := by
  subst hn
  obtain ⟨g, cap, cur, rfl, hb, hg, ht⟩ := own_some h h0
  refine ⟨g, cap, rfl, hg, fun i hi => ?_⟩
  obtain ⟨p1, p2⟩ := pts_get P i hi
  exact ⟨take_cell hb ht (by omega) p1, take_cell hb ht (by omega) p2⟩
/-- the costs of each loft, as a slice of slices -/
def CostsAt (W : World) (g k N : Nat) (cs : Nat → List Nat) : Prop := ∀ i, i < k → ∃ gi ci, W.cell? ⟨g, i, none⟩ = some (.slice (some ⟨gi, 0, none⟩) N ci) ∧ gi < W.heap.size ∧ ∀ j, j < N → W.cell? ⟨gi, j, none⟩ = some (.int .i64 ((cs i).getD j 0 : Nat))
theorem CostsAt.keep {W W' : World} {g k N : Nat} {cs : Nat → List Nat} (h : CostsAt W g k N cs) (hg : g < W.heap.size) (hG : G W W') : CostsAt W' g k N cs := fun i hi => by
  obtain ⟨gi, ci, h1, h2, h3⟩ := h i hi
  exact ⟨gi, ci, ((bcellB hG).1 g _ hg).trans h1, Nat.lt_of_lt_of_le h2 hG.size, fun j hj => ((bcellB hG).1 gi _ h2).trans (h3 j hj)⟩
/-- the rows that are there so far -/
def RowsI (W : World) (base : Nat) (v : Value) (k N : Nat) (cs : Nat → List Nat) : Prop :=
  ∃ vs : List Value, vs.length = k ∧ W.ownsRow base 22 1 v k vs ∧ ∀ j, j < k → ∃ b, W.ownsRow b 3 1 (vs.getD j undef) N (natV (cs j))
theorem RowsI.keep {W W' : World} {base k N : Nat} {v : Value} {cs : Nat → List Nat} (h : RowsI W base v k N cs) (hG : G W W') : RowsI W' base v k N cs := by
  obtain ⟨vs, h1, h2, h3⟩ := h
  exact ⟨vs, h1, own_G h2 hG, fun j hj => by obtain ⟨b, hb⟩ := h3 j hj; exact ⟨b, own_G hb hG⟩⟩
theorem RowsI.at {W : World} {base k N : Nat} {v : Value} {cs : Nat → List Nat} (h : RowsI W base v k N cs) (hk : 0 < k) (hN : 0 < N) (hcs : ∀ j, j < k → (cs j).length = N) : ∃ g cap, v = .slice (some ⟨g, 0, none⟩) k cap ∧ g < W.heap.size ∧ CostsAt W g k N cs := by
  obtain ⟨vs, h1, h2, h3⟩ := h
  obtain ⟨g, cap, cur, rfl, hb, hg, ht⟩ := own_some h2 hk
  refine ⟨g, cap, rfl, hg, fun i hi => ?_⟩
  obtain ⟨b, hr⟩ := h3 i hi
  obtain ⟨gi, ci, cur2, e, hb2, hg2, ht2⟩ := own_some hr hN
  have hl : (cs i).length = N := hcs i hi
  refine ⟨gi, ci, take_cell hb ht (by omega) (by rw [← e]; simp [h1, hi]), hg2, fun j hj => take_cell hb2 ht2 (by omega) ?_⟩
  have : j < (cs i).length := by omega
  simp [natV, this]
/-- one row more -/
theorem RowsI.snoc {WX W4 : World} {base k N : Nat} {v v' u : Value} {cs : Nat → List Nat} {vs : List Value} (h1 : vs.length = k) (h2 : WX.ownsRow base 22 1 v k vs) (h3 : ∀ j, j < k → ∃ b, WX.ownsRow b 3 1 (vs.getD j undef) N (natV (cs j))) {b : Nat} (hu : WX.ownsRow b 3 1 u N (natV (cs k)))
    (hown : W4.ownsRow base 22 1 v' (k + 1) (vs ++ [u])) (hg : WX.grownBy W4 v.ownBlock) : RowsI W4 base v' (k + 1) N cs := by
  refine ⟨vs ++ [u], by simp [h1], hown, fun j hj => ?_⟩
  by_cases hjk : j < k
  · obtain ⟨b', hb'⟩ := h3 j hjk
    have e : (vs ++ [u]).getD j undef = vs.getD j undef := by
      have : j < vs.length := by omega
      simp [List.getElem?_append_left this]
    exact ⟨b', by rw [e]; exact hb'.kept hg (own_own hb' h2 (by decide))⟩
  · obtain rfl : j = k := by omega
    have e : (vs ++ [u]).getD j undef = u := by
      rw [← h1]; simp
    exact ⟨b, by rw [e]; exact hu.kept hg (own_own hu h2 (by decide))⟩
def costsL (north : Int) (cols : Nat) (east : List Int) (svs : List Sv) (j : Nat) : List Nat := (allP cols east.length).map (cost north east svs j)
section
variable (north wrong : Int) (cols lofts : Nat) (east : List Int) (svs : List Sv) (ea sa : Option Addr) (ec sc : Nat) (w : World)
def CostsPost (cs : Nat → List Nat) (N : Nat) (e : Ending) (w' : World) : Prop := ∃ g cap, e = .returned (.slice (some ⟨g, 0, none⟩) lofts cap) ∧ g < w'.heap.size ∧ CostsAt w' g lofts N cs ∧ G w w'
set_option maxRecDepth 100000 in
set_option maxHeartbeats 4000000 in
theorem rCosts_any (he : IntsAt w ea east) (hs : SvsAt w sa svs) (hk : checkE north cols east lofts svs wrong = 0) :
    Calls Try.prog 71 #[.agg #[.int .i64 north, .int .i64 cols, .slice ea east.length ec, .int .i64 lofts, .slice sa svs.length sc, .int .i64 wrong]] w (CostsPost lofts w (costsL north cols east svs) (allP cols east.length).length) := by
  obtain ⟨hv, hl2, hso⟩ := checkE_zero hk
  have hvb := vm_bounds hv
  have hlo1 : 0 < lofts := by omega
  have hl8 : lofts ≤ 8 := by omega
  have hPl := allP_len cols east.length
  have hN0 : 0 < (allP cols east.length).length := by
    rw [hPl]
    exact Nat.mul_pos (by omega) (by omega)
  have hN1 : (allP cols east.length).length ≤ 100 := by
    rw [hPl]
    have : east.length * cols ≤ 10 * 10 := Nat.mul_le_mul (by omega) (by omega)
    omega
  have hPm : ∀ i, i < (allP cols east.length).length → ((allP cols east.length).getD i (0, 0)).1 < cols ∧ ((allP cols east.length).getD i (0, 0)).2 < east.length := fun i hi => allP_mem (by simp [hi])
  have HCO := Lib.hid (fun (W : World) (hW : G w W) (k : Nat) (p : Nat × Nat) (hp : p.1 < cols ∧ p.2 < east.length) => rCost_any north cols lofts wrong k p.1 p.2 east svs ea sa ec sc W (he.below hW) (hs.below hW) hl2 hv hso (by simp [isPlaceB, isInB]; omega))
  have HPL := Lib.hid (fun (W : World) => rPlaces_all north wrong cols lofts east.length ea ec (.slice sa svs.length sc) W (by omega) (by omega))
  obtain ⟨P, hP⟩ : ∃ P, P = allP cols east.length := ⟨_, rfl⟩
  have hcs : ∀ j, costsL north cols east svs j = P.map (cost north east svs j) := fun j => by rw [hP]; rfl
  rw [← hP] at hN0 hN1 hPm HPL ⊢
  have HCS := Lib.hid hcs
  have HPM := Lib.hid hPm
  have HP : Hid (∀ (w' : World) (g cap : Nat), g < w'.heap.size → CostsAt w' g lofts P.length (costsL north cols east svs) → G w w' → CostsPost lofts w (costsL north cols east svs) P.length (.returned (.slice (some ⟨g, 0, none⟩) lofts cap)) w') := fun w' g cap h1 h2 h3 => ⟨g, cap, rfl, h1, h2, h3⟩
  generalize CostsPost lofts w (costsL north cols east svs) P.length = PP at *
  generalize hcsf : costsL north cols east svs = cs at *
  clear hcs hPm hP hPl hv hso hk hvb hcsf
  have hG0 : G w (w.alloc (.cells #[.int .i64 north, .int .i64 cols, .slice ea east.length ec, .int .i64 lofts, .slice sa svs.length sc, .int .i64 wrong] 25)) := (G.rf _).a _
  have k0 := Blk.new w 25 #[.int .i64 north, .int .i64 cols, .slice ea east.length ec, .int .i64 lofts, .slice sa svs.length sc, .int .i64 wrong]
  obtain ⟨i0, hi0, hz0, hz1, hz2⟩ := info_parts info3
  obtain ⟨j0, hj0, hy0, hy1, hy2⟩ := info_parts info22
  go_enter Try.func71, Try.ntmps71
  go_wp2_with (go_at_call 75; refine (HPL.out _).mono ?_; rintro e w1 ⟨vA, rfl, hownA, hG1⟩)
  have bM := k0.keep hG1
  have g1 := hG0.t hG1
  obtain ⟨gA, capA, eA, hgA, hptA⟩ := pts_own rfl hownA hN0
  subst eA
  replace hownA := own_weaken hownA hG0.size
  clear hG1 k0 hG0 hgA hptA HPL
  go_loopw [4, 5] (fun v i wr => ∃ k : Nat, k ≤ lofts ∧ i = .int .i64 k ∧ RowsI wr w.heap.size v k P.length cs ∧ G w wr ∧ Blk wr w.heap.size 25 #[.int .i64 north, .int .i64 cols, .slice ea east.length ec, .int .i64 lofts, .slice sa svs.length sc, .int .i64 wrong] ∧ wr.ownsRow w.heap.size 27 2 (.slice (some ⟨gA, 0, none⟩) P.length capA) P.length (ptsV P)) (fun _ i _ => lofts - (intOf i).toNat)
  case atStart => exact ⟨0, Nat.zero_le _, rfl, ⟨[], rfl, World.ownsRow_nil _ _ _ _, fun j hj => by omega⟩, g1, bM, hownA⟩
  case round =>
    clear g1 bM hownA
    obtain ⟨k, hk, rfl, hRows, hGr, bR, hAr⟩ := hrel
    obtain ⟨wo, rfl⟩ : ∃ wo, wo = wr := ⟨_, rfl⟩
    have HR := Lib.hid hRows
    have HA := Lib.hid hAr
    clear hRows hAr
    have m3 := bR.cell 3
    have lM := bR.lt
    by_cases hlt : k < lofts
    · have hki : (k : Int) < lofts := by omega
      go_wp2
      go_loopw [6, 7] (fun v i wi => ∃ x : Nat, x ≤ P.length ∧ i = .int .i64 x ∧ wi.ownsRow wo.heap.size 3 1 v x (natV ((cs k).take x)) ∧ G wo wi) (fun _ i _ => P.length - (intOf i).toNat)
      case atStart => exact ⟨0, Nat.zero_le _, rfl, by simpa [natV] using World.ownsRow_nil _ _ _ _, G.rf _⟩
      case round =>
        obtain ⟨x, hx, rfl, hown2, hGi⟩ := hrel
        obtain ⟨wi, rfl⟩ : ∃ wi, wi = wr := ⟨_, rfl⟩
        have HO2 := Lib.hid hown2
        clear hown2 m3 lM
        by_cases hlt2 : x < P.length
        · have hxi : (x : Int) < P.length := by omega
          have bI := bR.keep hGi
          have hAi := own_G HA.out hGi
          obtain ⟨g2, cap2, e2, hg2, hpt⟩ := pts_own rfl hAi hN0
          obtain ⟨rfl, rfl⟩ : gA = g2 ∧ capA = cap2 := by simpa using e2
          have hxp := hpt x hlt2
          have hpm := HPM.out x hlt2
          have hcx : (cs k).take (x + 1) = (cs k).take x ++ [cost north east svs k (P.getD x (0, 0))] := by
            rw [HCS.out k, ← List.map_take, ← List.map_take, List.take_succ_eq_append_getElem hlt2, List.map_append]
            simp [hlt2]
          generalize P.getD x (0, 0) = p at *
          have HCO2 := Lib.hid (fun (W : World) (hW : G wi W) => HCO.out W (hGr.t (hGi.t hW)) k p hpm)
          have hcl : cost north east svs k p = wrongN north east svs k p.1 p.2 := rfl
          rw [← hcl] at HCO2
          generalize cost north east svs k p = cc at *
          have HX := Lib.hid hcx
          clear hcx hpt hAi hcl hpm e2
          obtain ⟨px, py⟩ := p
          have lI := bI.lt
          go_wp2
          refine wp_region_Y (S := fun W' => Blk W' w.heap.size 25 #[.int .i64 north, .int .i64 cols, .slice ea east.length ec, .int .i64 lofts, .slice sa svs.length sc, .int .i64 wrong] ∧ W'.cell? ⟨gA, x * 2, none⟩ = some (.int .i64 px) ∧ W'.cell? ⟨gA, x * 2 + 1, none⟩ = some (.int .i64 py)) 9 11 rfl (by kernel_rfl) ⟨bI, hxp⟩ (fun hS => ?_)
          refine wpAnyY_take (i := 0) (v := ?_) rfl (by kernel_rfl) (by kernel_rfl) (by kernel_rfl) (by kernel_rfl) (fun _ _ _ h => h) (Or.inl ⟨by kernel_rfl, ?_⟩) (by assumption) ?_
          rotate_left
          · intro w' hSw; go_simp; with_reducible rfl
          try simp only [Act.put, List.setIfInBounds_toArray, List.set_cons_zero, List.set_cons_succ]
          refine wpAnyY_take (i := 1) (v := ?_) rfl (by kernel_rfl) (by kernel_rfl) (by kernel_rfl) (by kernel_rfl) (fun _ _ _ h => h) (Or.inl ⟨by kernel_rfl, ?_⟩) (by assumption) ?_
          rotate_left
          · intro w' hSw; have i0 := hSw.1.cell 0; have i1 := hSw.1.cell 1; have i2 := hSw.1.cell 2; have i3 := hSw.1.cell 3; have i4 := hSw.1.cell 4; have i5 := hSw.1.cell 5; go_simp; with_reducible rfl
          try simp only [Act.put, List.setIfInBounds_toArray, List.set_cons_zero, List.set_cons_succ]
          refine wpAnyY_take (i := 2) (v := ?_) rfl (by kernel_rfl) (by kernel_rfl) (by kernel_rfl) (by kernel_rfl) (fun _ _ _ h => h) (Or.inl ⟨by kernel_rfl, ?_⟩) (by assumption) ?_
          rotate_left
          · intro w' hSw; go_simp; with_reducible rfl
          try simp only [Act.put, List.setIfInBounds_toArray, List.set_cons_zero, List.set_cons_succ]
          refine wpAnyY_take (i := 3) (v := ?_) rfl (by kernel_rfl) (by kernel_rfl) (by kernel_rfl) (by kernel_rfl) (fun _ _ _ h => h) (Or.inl ⟨by kernel_rfl, ?_⟩) (by assumption) ?_
          rotate_left
          · intro w' hSw; go_simp; with_reducible rfl
          try simp only [Act.put, List.setIfInBounds_toArray, List.set_cons_zero, List.set_cons_succ]
          refine wpAnyY_take (i := 4) (v := ?_) rfl (by kernel_rfl) (by kernel_rfl) (by kernel_rfl) (by kernel_rfl) (fun _ _ _ h => h) (Or.inl ⟨by kernel_rfl, ?_⟩) (by assumption) ?_
          rotate_left
          · intro w' hSw; go_simp; with_reducible rfl
          try simp only [Act.put, List.setIfInBounds_toArray, List.set_cons_zero, List.set_cons_succ]
          refine wpAnyY_take (i := 5) (v := ?_) rfl (by kernel_rfl) (by kernel_rfl) (by kernel_rfl) (by kernel_rfl) (fun _ _ _ h => h) (Or.inl ⟨by kernel_rfl, ?_⟩) (by assumption) ?_
          rotate_left
          · intro w' hSw; go_simp; with_reducible rfl
          try simp only [Act.put, List.setIfInBounds_toArray, List.set_cons_zero, List.set_cons_succ]
          refine wpAnyY_take (i := 6) (v := ?_) rfl (by kernel_rfl) (by kernel_rfl) (by kernel_rfl) (by kernel_rfl) (fun _ _ _ h => h) (Or.inl ⟨by kernel_rfl, ?_⟩) (by assumption) ?_
          rotate_left
          · intro w' hSw; obtain ⟨y0, y1⟩ := hSw.2; go_simp; with_reducible rfl
          try simp only [Act.put, List.setIfInBounds_toArray, List.set_cons_zero, List.set_cons_succ]
          refine wpAnyY_oneSW (i := 7) (by kernel_rfl) rfl (by kernel_rfl) (fun K7 hK7 => ?_)
          go_simp
          refine (HCO2.out _ (G.rf _).d).mono ?_
          rintro e w3 ⟨rfl, hG3⟩
          have hSk : ∀ W', G wi W' → Blk W' w.heap.size 25 #[.int .i64 north, .int .i64 cols, .slice ea east.length ec, .int .i64 lofts, .slice sa svs.length sc, .int .i64 wrong] ∧ W'.cell? ⟨gA, x * 2, none⟩ = some (.int .i64 px) ∧ W'.cell? ⟨gA, x * 2 + 1, none⟩ = some (.int .i64 py) := fun W' hW => ⟨bI.keep hW, ((bcellB hW).1 gA _ hg2).trans hxp.1, ((bcellB hW).1 gA _ hg2).trans hxp.2⟩
          refine hK7.out _ _ (hSk _ ((G.rf _).d.t hG3)) (fun _ => ?_)
          try simp only [Act.put, List.setIfInBounds_toArray, List.set_cons_zero, List.set_cons_succ]
          refine wpAnyY_oneSW (i := 8) (by kernel_rfl) rfl (by kernel_rfl) (fun K8 hK8 => ?_)
          go_simp
          refine hK8.out _ _ (hSk _ (((G.rf _).d.t hG3).a _)) (fun _ => ?_)
          try simp only [Act.put, List.setIfInBounds_toArray, List.set_cons_zero, List.set_cons_succ]
          refine wpAnyY_oneW (i := 9) (by kernel_rfl) rfl (by kernel_rfl) (by kernel_rfl) (fun K9 hK9 => ?_)
          have hGX : G wi (w3.alloc (.cells #[.int .i64 (cc : Nat)] 3)) := ((G.rf _).d.t hG3).a _
          refine wp_append_own _ _ _ 22 rfl wo.heap.size 3 i0 (.int .i64 0) 1 8 Try.underlying22 hi0 hz0 hz1 hz2 rfl (by decide) _ x (natV ((cs k).take x)) rfl (own_G HO2.out hGX) ⟨_, 0, none⟩ 1 1 [.int .i64 (cc : Nat)] rfl rfl (cell_one_new _ _ _) (by simp [Value.oneCell']) (by unfold maxLen; omega) (by omega) ((hGi.t hGX).size) ?_
          intro v' w4 hown' hg4 hnil4
          have hg5 := grow_own (hGi.t hGX) (own_G HO2.out hGX) (Nat.le_refl _) hg4
          have HN := Lib.hid hown'
          clear hown' hg4 hnil4 hS hSk
          refine hK9.out _ _ ?_
          try simp only [Act.put, List.setIfInBounds_toArray, List.set_cons_zero, List.set_cons_succ]
          refine wpAnyY_oneW (i := 10) (by kernel_rfl) rfl (by kernel_rfl) (by kernel_rfl) (fun K10 hK10 => ?_)
          go_simp
          refine hK10.out _ _ ?_
          try simp only [Act.put, List.setIfInBounds_toArray, List.set_cons_zero, List.set_cons_succ]
          refine wpAnyY_done (by kernel_rfl) ?_ _
          clear hK7 hK8 hK9 hK10
          go_wp2
          go_roundw
          case rel => exact ⟨x + 1, by omega, by go_num, by rw [HX.out]; simpa [natV] using HN.out, hg5⟩
          case measure => simp [intOf]; omega
        · have hxi : ¬ (x : Int) < P.length := by omega
          obtain rfl : x = P.length := by omega
          have hcl : (cs k).length = P.length := by rw [HCS.out k, List.length_map]
          have hu := HO2.out
          rw [List.take_of_length_le (by omega)] at hu
          obtain ⟨gu, cu, curu, eu, hbu, hgu, _⟩ := own_some hu hN0
          obtain ⟨vs, r1, r2, r3⟩ := HR.out.keep hGi
          have bI := bR.keep hGi
          have HR1 := Lib.hid r1
          have HR2 := Lib.hid r2
          have HR3 := Lib.hid r3
          have HU := Lib.hid hu
          have HAi := Lib.hid (own_G HA.out hGi)
          have hGw := hGr.t hGi
          clear r1 r2 r3 hu hbu hcl
          subst eu
          go_wp2_with (at_builtin; refine wpList_append_own _ rfl _ _ 96 rfl w.heap.size 22 j0 (.slice none 0 0) 1 24 Try.underlying96 hj0 hy0 hy1 hy2 rfl (by decide) _ k vs rfl ?hown ⟨_, 0, none⟩ 1 1 [.slice (some ⟨gu, 0, none⟩) P.length cu] rfl rfl (cell_one_new _ _ _) (by simp [Value.oneCell']) (by unfold maxLen; omega) (by omega) ?hbase ?hrest)
          case hown => exact own_G HR2.out ((G.rf _).a _)
          case hbase => exact Nat.le_succ_of_le hGw.size
          case hrest =>
            intro v' w4 hown' hg4 hnil4
            have gX : G wi (wi.alloc (.cells #[.slice (some ⟨gu, 0, none⟩) P.length cu] 22)) := (G.rf _).a _
            have y1 := RowsI.snoc (cs := cs) HR1.out (own_G HR2.out gX) (fun j hj => by obtain ⟨b, hb⟩ := HR3.out j hj; exact ⟨b, own_G hb gX⟩) (own_G HU.out gX) hown' hg4
            have y2 := grow_own (hGw.t gX) (own_G HR2.out gX) (Nat.le_refl _) hg4
            have y3 := (bI.keep gX).grown hg4 (own_ne (own_G HR2.out gX) (bI.keep gX) (by decide))
            have y4 := (own_G HAi.out gX).kept hg4 (own_own (own_G HAi.out gX) (own_G HR2.out gX) (by decide))
            have HY1 := Lib.hid y1
            have HY4 := Lib.hid y4
            clear y1 y4 hown' hg4 hnil4 gX
            go_wp2
            go_roundw
            case rel => exact ⟨k + 1, by omega, by go_num, HY1.out, y2, y3, HY4.out⟩
            case measure => simp [intOf]; omega
    · have hki : ¬ (k : Int) < lofts := by omega
      obtain rfl : k = lofts := by omega
      obtain ⟨g, cap, eg, hgl, hC⟩ := HR.out.at hlo1 hN0 (fun j _ => by rw [HCS.out j, List.length_map])
      subst eg
      have HF := Lib.hid (HP.out wo g cap hgl hC hGr)
      clear hC hgl
      go_wp2
      first | exact HF.out | (go_ret; exact HF.out)
end
end Go.Proofs.Ytpjfdfddcnocpaa
