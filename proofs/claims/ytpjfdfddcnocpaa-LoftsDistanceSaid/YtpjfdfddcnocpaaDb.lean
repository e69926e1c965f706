import Derived.Test.YtpjfdfddcnocpaaDa
import Derived.Test.YtpjfdfddcnocpaaUd
import Derived.Laws.ResultCell
set_option linter.unusedSimpArgs false
set_option linter.unusedVariables false
namespace Go.Proofs.Ytpjfdfddcnocpaa
open Go.RowKit
attribute [local go_sem] Oper.semAt_some

theorem res44 {tmps : Array Value} {W : World} {n : Nat} {x y E : Int} (h8 : tmps.getD 8 undef = .pointer (some ⟨n, 0, none⟩)) (h9 : tmps.getD 9 undef = .int .i64 E) (b : Blk W n 46 #[.int .i64 x, .int .i64 y]) :
    (results Try.f44 tmps).run Try.prog W = .ok (.tuple #[.agg #[.int .i64 x, .int .i64 y], .int .i64 E]) W := by
  have c0 : W.cell? ⟨n, 0, none⟩ = some (.int .i64 x) := b.cell 0
  have c1 : W.cell? ⟨n, 1, none⟩ = some (.int .i64 y) := b.cell 1
  have l := b.lt
  rw [results_cell_tmp (show Try.f44.results = #[.cell 8 46, .tmp 9] from rfl), h8, h9]
  simp [go_sem, c0, c1, l, Result.andThen]
theorem set46 {W : World} {n : Nat} {u v x y : Value} (b : Blk W n 46 #[u, v]) : Blk ((W.setCell ⟨n, 0, none⟩ x).setCell ⟨n, 1, none⟩ y) n 46 #[x, y] := by
  have h := (b.set_ 0 x).set_ 1 y
  simpa using h
section
variable (north cols lofts wrong a b rule : Int) (east : List Int) (svs : List Sv) (ea sa : Option Addr) (ec sc : Nat) (w : World)
set_option maxHeartbeats 4000000 in
theorem rDist_err (he : IntsAt w ea east) (hs : SvsAt w sa svs) (hl : east.length ≤ 9223372036854775807) (hl2 : svs.length ≤ 9223372036854775807) (hc : ¬ ctE north cols lofts wrong east svs a b rule = 0) :
    Calls Try.prog 44 #[.agg #[.int .i64 north, .int .i64 cols, .slice ea east.length ec, .int .i64 lofts, .slice sa svs.length sc, .int .i64 wrong], .int .i64 a, .int .i64 b, .int .i64 rule] w fun e w' => e = .returned (.tuple #[.agg #[.int .i64 0, .int .i64 0], .int .i64 (ctE north cols lofts wrong east svs a b rule)]) ∧ G w w' := by
  obtain ⟨g0, b0, b8⟩ := w2_spec w #[.int .i64 north, .int .i64 cols, .slice ea east.length ec, .int .i64 lofts, .slice sa svs.length sc, .int .i64 wrong] #[.int .i64 0, .int .i64 0] 25 46
  have HT := Lib.hid (fun (W : World) (hW : G w W) => rCheckTruth_any north cols lofts wrong a b rule east svs ea sa ec sc W (he.below hW) (hs.below hW) hl hl2)
  generalize ctE north cols lofts wrong east svs a b rule = E at *
  have hE : (E == 0) = false := by simp [hc]
  clear he hs hl hl2
  go_enter Try.func44, Try.ntmps44
  go_wp2_with (go_at_call 74; refine (HT.out _ g0).mono ?_; rintro e w1 ⟨rfl, hG1⟩; replace b0 := b0.keep hG1; replace b8 := b8.keep hG1; replace g0 := g0.t hG1; clear hG1; have z8 := b8.lt; have y0 := b8.cell 0; have y1 := b8.cell 1; have z0 := b8.frozen 0; have z1 := b8.frozen 1)
  refine bodyPost_ret (v := .tuple #[.agg #[.int .i64 0, .int .i64 0], .int .i64 E]) (res44 rfl rfl (set46 b8)) rfl ⟨rfl, ?_⟩
  exact (g0.s (Nat.le_succ _) _).s (Nat.le_succ _) _

set_option maxHeartbeats 4000000 in
theorem rDist_same (he : IntsAt w ea east) (hs : SvsAt w sa svs) (hl : east.length ≤ 9223372036854775807) (hl2 : svs.length ≤ 9223372036854775807) (hc : ctE north cols lofts wrong east svs a a rule = 0) :
    Calls Try.prog 44 #[.agg #[.int .i64 north, .int .i64 cols, .slice ea east.length ec, .int .i64 lofts, .slice sa svs.length sc, .int .i64 wrong], .int .i64 a, .int .i64 a, .int .i64 rule] w fun e w' => e = .returned (.tuple #[.agg #[.int .i64 0, .int .i64 0], .int .i64 0]) ∧ G w w' := by
  obtain ⟨g0, b0, b8⟩ := w2_spec w #[.int .i64 north, .int .i64 cols, .slice ea east.length ec, .int .i64 lofts, .slice sa svs.length sc, .int .i64 wrong] #[.int .i64 0, .int .i64 0] 25 46
  have hT := fun (W : World) (hW : G w W) => rCheckTruth_any north cols lofts wrong a a rule east svs ea sa ec sc W (he.below hW) (hs.below hW) hl hl2
  rw [hc] at hT
  have HT := Lib.hid hT
  have q0 : (a == a) = true := by simp
  clear hT he hs hl hl2 hc
  go_enter Try.func44, Try.ntmps44
  go_wp2_with (go_at_call 74; refine (HT.out _ g0).mono ?_; rintro e w1 ⟨rfl, hG1⟩; replace b0 := b0.keep hG1; replace b8 := b8.keep hG1; replace g0 := g0.t hG1; clear hG1; have z8 := b8.lt; have y0 := b8.cell 0; have y1 := b8.cell 1; have z0 := b8.frozen 0; have z1 := b8.frozen 1)
  refine bodyPost_ret (v := .tuple #[.agg #[.int .i64 0, .int .i64 0], .int .i64 0]) (res44 rfl rfl (set46 b8)) rfl ⟨rfl, ?_⟩
  exact (g0.s (Nat.le_succ _) _).s (Nat.le_succ _) _
end
theorem rowD_snoc (north wrong : Int) (cols lofts : Nat) (east : List Int) (svs : List Sv) (a b : Nat) (p : Nat × Nat) (P : List (Nat × Nat)) (j : Nat) (hj : j < P.length) :
    rowD north wrong cols lofts east svs a b p (P.take (j + 1)) = if okD north wrong cols lofts east svs a b p (P.getD j (0, 0)) then rowD north wrong cols lofts east svs a b p (P.take j) ++ [sqI north east p.1 p.2 (P.getD j (0, 0)).1 (P.getD j (0, 0)).2] else rowD north wrong cols lofts east svs a b p (P.take j) := by
  unfold rowD
  rw [filter_snoc _ P j (0, 0) hj]
  split
  · rw [List.map_append]; rfl
  · rfl
theorem allD_snoc (north wrong : Int) (cols lofts : Nat) (east : List Int) (svs : List Sv) (a b : Nat) (P Q : List (Nat × Nat)) (k : Nat) (hk : k < P.length) :
    allD north wrong cols lofts east svs a b (P.take (k + 1)) Q = allD north wrong cols lofts east svs a b (P.take k) Q ++ rowD north wrong cols lofts east svs a b (P.getD k (0, 0)) Q := by
  unfold allD
  rw [List.take_succ_eq_append_getElem hk, List.flatMap_append]
  simp [hk]
section
variable (north wrong rule : Int) (cols lofts a b : Nat) (east : List Int) (svs : List Sv) (ea sa : Option Addr) (ec sc : Nat) (w : World)
set_option maxRecDepth 100000 in
set_option maxHeartbeats 8000000 in
theorem rDist_ok (he : IntsAt w ea east) (hs : SvsAt w sa svs) (hk : checkE north cols east lofts svs wrong = 0) (hr : 0 ≤ rule ∧ rule ≤ 2) (ha : a < lofts) (hb : b < lofts) (hab : a ≠ b) (hw : ¬ wrong < fewSum north cols east svs lofts) :
    Calls Try.prog 44 #[.agg #[.int .i64 north, .int .i64 cols, .slice ea east.length ec, .int .i64 lofts, .slice sa svs.length sc, .int .i64 wrong], .int .i64 a, .int .i64 b, .int .i64 rule] w fun e w' => e = .returned (.tuple #[.agg #[.int .i64 (rnd rule (loL (allD north wrong cols lofts east svs a b (allP cols east.length) (allP cols east.length))).toNat), .int .i64 (rnd rule (hiL (allD north wrong cols lofts east svs a b (allP cols east.length) (allP cols east.length))).toNat)], .int .i64 0]) ∧ G w w' := by
  have hv := checkE_ok hk
  have hvb := vm_bounds hv
  have hl2 := (checkE_zero hk).2.1
  have hT := fun (W : World) (hW : G w W) => rCheckTruth_any north cols lofts wrong a b rule east svs ea sa ec sc W (he.below hW) (hs.below hW) (by omega) (by omega)
  have hct : ctE north cols lofts wrong east svs a b rule = 0 := by
    unfold ctE
    rw [if_pos hk, if_pos (by simp [isInB]; omega)]
    simp [hw]
  rw [hct] at hT
  have HT := Lib.hid hT
  have HPA := Lib.hid (fun (W : World) => rPlaces_all north wrong cols lofts east.length ea ec (.slice sa svs.length sc) W (by omega) (by omega))
  have HCO := Lib.hid (fun (W : World) (hW : G w W) => rCosts_any north wrong cols lofts east svs ea sa ec sc W (he.below hW) (hs.below hW) hk)
  have HLE := Lib.hid (rLeast_map hk)
  have hsf := sumM_few north cols lofts east svs (by omega) (by omega)
  have hlowa := minA_low north cols east svs a (by omega) (by omega)
  have hlowb := minA_low north cols east svs b (by omega) (by omega)
  have hfew : fewSum north cols east svs lofts ≤ 128 := Nat.le_trans (fewSum_le north cols east svs lofts hl2) (by omega)
  have hlo8 : lofts ≤ 8 := by omega
  have hPl := allP_len cols east.length
  have hN0 : 0 < (allP cols east.length).length := by
    rw [hPl]; exact Nat.mul_pos (by omega) (by omega)
  have hN1 : (allP cols east.length).length ≤ 100 := by
    rw [hPl]
    have : east.length * cols ≤ 10 * 10 := Nat.mul_le_mul (by omega) (by omega)
    omega
  have hcL : ∀ l k, k < (allP cols east.length).length → (costsL north cols east svs l).getD k 0 = cost north east svs l ((allP cols east.length).getD k (0, 0)) := fun l k hk => by unfold costsL; simp [hk]
  have hc16 : ∀ l p, cost north east svs l p ≤ 16 := fun l p => Nat.le_trans (cost_le _ _ _ _ _) hl2
  have hlw : ∀ l, lowC north east svs l (allP cols east.length) ≤ 16 := fun l => by
    obtain ⟨_, p, _, e⟩ := low_spec north cols east svs l (by omega) (by omega)
    rw [e]; exact hc16 l p
  have hSq := fun (W : World) (hW : G w W) (p q : Nat × Nat) (h1 : p ∈ allP cols east.length) (h2 : q ∈ allP cols east.length) => rSquare_any north cols lofts wrong p.1 q.1 p.2 q.2 east ea ec (.slice sa svs.length sc) W (he.below hW) hv (allP_mem h1).2 (allP_mem h2).2 (by have := allP_mem h1; simp [isInB]; omega) (by have := allP_mem h2; simp [isInB]; omega)
  have hbd : ∀ x ∈ allD north wrong cols lofts east svs a b (allP cols east.length) (allP cols east.length), 0 ≤ x ∧ x ≤ 2592000000000000 := by
    intro x hx
    obtain ⟨p, hp, q, hq, _, rfl⟩ := (allD_mem north wrong cols lofts east svs a b _ _ x).1 hx
    exact sq_bd hv (allP_mem hp).2 (allP_mem hq).2 (by have := allP_mem hp; simp [isInB]; omega) (by have := allP_mem hq; simp [isInB]; omega)
  have hne : allD north wrong cols lofts east svs a b (allP cols east.length) (allP cols east.length) ≠ [] := by
    obtain ⟨f, hf⟩ := List.exists_mem_of_ne_nil _ (truths_ne (ls := [a, b]) hk hw)
    exact List.ne_nil_of_mem ((pairs_iff north wrong cols lofts east svs hab ha hb hw _).2 ⟨f, hf, rfl⟩)
  have hspl := loL_spec hne (fun x hx => (hbd x hx).1)
  have hsph := hiL_spec hne (fun x hx => (hbd x hx).1)
  have hlb := hbd _ hspl.1
  have hhb := hbd _ hsph.1
  have HRL := Lib.hid (fun (W : World) => rRounded_any (loL (allD north wrong cols lofts east svs a b (allP cols east.length) (allP cols east.length))) rule W (by omega) hr)
  have HRH := Lib.hid (fun (W : World) => rRounded_any (hiL (allD north wrong cols lofts east svs a b (allP cols east.length) (allP cols east.length))) rule W (by omega) hr)
  have hrow := rowD_snoc north wrong cols lofts east svs a b
  have hall := allD_snoc north wrong cols lofts east svs a b
  have hok : ∀ p q, okD north wrong cols lofts east svs a b p q = decide ((fewSum north cols east svs lofts : Int) - (lowC north east svs a (allP cols east.length) : Int) - (lowC north east svs b (allP cols east.length) : Int) + (cost north east svs a p : Int) + (cost north east svs b q : Int) ≤ wrong) := fun p q => rfl
  have hr0 : ∀ p, rowD north wrong cols lofts east svs a b p [] = [] := fun p => rfl
  have ha0 : ∀ Q, allD north wrong cols lofts east svs a b [] Q = [] := fun Q => rfl
  have hlwa := hlw a
  have hlwb := hlw b
  obtain ⟨P, hP⟩ : ∃ P, P = allP cols east.length := ⟨_, rfl⟩
  rw [← hP] at hN0 hN1 hcL hlwa hlwb hok hlowa hlowb HPA HCO HLE hSq HRL HRH ⊢
  generalize rowD north wrong cols lofts east svs a b = rowd at *
  generalize allD north wrong cols lofts east svs a b = alld at *
  generalize okD north wrong cols lofts east svs a b = okd at *
  have HROW := Lib.hid hrow
  have HALL := Lib.hid hall
  have HOK := Lib.hid hok
  have HR0 := Lib.hid hr0
  have HA0 := Lib.hid ha0
  have HCL := Lib.hid hcL
  have HLA := Lib.hid hlowa
  have HLB := Lib.hid hlowb
  have HSF := Lib.hid hsf
  have HC16 := Lib.hid hc16
  have HSQ := Lib.hid hSq
  clear hT hct hrow hall hok hr0 ha0 hcL hlowa hlowb hsf hPl hk hv hvb hl2 hc16 hlw hSq hbd hne hspl hsph hlb hhb hP he hs hr
  have hab' : ¬ ((a : Int) = b) := by omega
  obtain ⟨g0, b0, b8⟩ := w2_spec w #[.int .i64 north, .int .i64 cols, .slice ea east.length ec, .int .i64 lofts, .slice sa svs.length sc, .int .i64 wrong] #[.int .i64 0, .int .i64 0] 25 46
  go_enter Try.func44, Try.ntmps44
  go_wp2_with (go_at_call 74; refine (HT.out _ g0).mono ?_; rintro e w1 ⟨rfl, hG1⟩; replace b0 := b0.keep hG1; replace b8 := b8.keep hG1; replace g0 := g0.t hG1; clear hG1)
  have lM := b0.lt
  refine wp_region_Y (S := fun W' => Blk W' w.heap.size 25 #[.int .i64 north, .int .i64 cols, .slice ea east.length ec, .int .i64 lofts, .slice sa svs.length sc, .int .i64 wrong]) 5 6 rfl (by kernel_rfl) (b0.keep (G.rf _).d) (fun hS => ?_)
  refine wpAnyY_take (i := 0) (v := ?_) rfl (by kernel_rfl) (by kernel_rfl) (by kernel_rfl) (by kernel_rfl) (fun _ _ _ h => h) (Or.inl ⟨by kernel_rfl, ?_⟩) hS ?_
  rotate_left
  · intro w' hSw; have i0 := hSw.cell 0; have i1 := hSw.cell 1; have i2 := hSw.cell 2; have i3 := hSw.cell 3; have i4 := hSw.cell 4; have i5 := hSw.cell 5; go_simp; with_reducible rfl
  try simp only [Act.put, List.setIfInBounds_toArray, List.set_cons_zero, List.set_cons_succ]
  refine wpAnyY_take (i := 2) (v := ?_) rfl (by kernel_rfl) (by kernel_rfl) (by kernel_rfl) (by kernel_rfl) (fun _ _ _ h => h) (Or.inl ⟨by kernel_rfl, ?_⟩) hS ?_
  rotate_left
  · intro w' hSw; have i0 := hSw.cell 0; have i1 := hSw.cell 1; have i2 := hSw.cell 2; have i3 := hSw.cell 3; have i4 := hSw.cell 4; have i5 := hSw.cell 5; go_simp; with_reducible rfl
  try simp only [Act.put, List.setIfInBounds_toArray, List.set_cons_zero, List.set_cons_succ]
  refine wpAnyY_oneSW (i := 1) (by kernel_rfl) rfl (by kernel_rfl) (fun K1 hK1 => ?_)
  go_simp
  refine (HPA.out _).mono ?_
  rintro e wa ⟨vA, rfl, hownA, hGa⟩
  have ga := (G.t (G.d (G.rf _)) hGa)
  have gwa := g0.t ga
  refine hK1.out _ _ (b0.keep ga) (fun hS => ?_)
  try simp only [Act.put, List.setIfInBounds_toArray, List.set_cons_zero, List.set_cons_succ]
  refine wpAnyY_oneSW (i := 3) (by kernel_rfl) rfl (by kernel_rfl) (fun K3 hK3 => ?_)
  go_simp
  refine (HCO.out _ gwa).mono ?_
  rintro e wc ⟨gC, capC, rfl, hgC, hCA, hGc⟩
  have gwc := gwa.t hGc
  have bc := (b0.keep ga).keep hGc
  have b8c := (b8.keep ga).keep hGc
  refine hK3.out _ _ bc (fun hS => ?_)
  try simp only [Act.put, List.setIfInBounds_toArray, List.set_cons_zero, List.set_cons_succ]
  refine wpAnyY_take (i := 4) (v := ?_) rfl (by kernel_rfl) (by kernel_rfl) (by kernel_rfl) (by kernel_rfl) (fun _ _ _ h => h) (Or.inl ⟨by kernel_rfl, ?_⟩) hS ?_
  rotate_left
  · intro w' hSw; go_simp; with_reducible rfl
  try simp only [Act.put, List.setIfInBounds_toArray, List.set_cons_zero, List.set_cons_succ]
  refine wpAnyY_oneW (i := 5) (by kernel_rfl) rfl (by kernel_rfl) (by kernel_rfl) (fun K5 hK5 => ?_)
  go_simp
  refine hK5.out _ _ ?_
  try simp only [Act.put, List.setIfInBounds_toArray, List.set_cons_zero, List.set_cons_succ]
  refine wpAnyY_done (by kernel_rfl) ?_ _
  clear hS hK1 hK3 hK5 b0 b8 lM
  have hownC := own_G hownA hGc
  clear hownA hGa ga
  go_wp2_with (go_at_call 72; refine (HLE.out _ gC capC hgC hCA).mono ?_; rintro e wl ⟨vL, rfl, hownL, hGl⟩)
  obtain ⟨gL, capL, curL, eL, hbL, hgL, htL⟩ := own_some hownL (by omega)
  subst eL
  have cLa : wl.cell? ⟨gL, a, none⟩ = some (.int .i64 (lowC north east svs a P : Nat)) := take_cell hbL htL (by omega) (by
    rw [← HLA.out]
    simp [natV, ha])
  have cLb : wl.cell? ⟨gL, b, none⟩ = some (.int .i64 (lowC north east svs b P : Nat)) := take_cell hbL htL (by omega) (by
    rw [← HLB.out]
    simp [natV, hb])
  obtain ⟨gA, capA, eA, hgA, hpt⟩ := pts_own rfl (own_G hownC hGl) hN0
  subst eA
  obtain ⟨gi, ci, cCa, hgi, hcca⟩ := (hCA.keep hgC hGl) a ha
  obtain ⟨gj, cj, cCb, hgj, hccb⟩ := (hCA.keep hgC hGl) b hb
  have hgC2 := Nat.lt_of_lt_of_le hgC hGl.size
  have bw := bc.keep hGl
  have b8w := b8c.keep hGl
  have gww := gwc.t hGl
  have hai : (a : Int) < lofts := by omega
  have hbi : (b : Int) < lofts := by omega
  have HCCA := Lib.hid hcca
  have HCCB := Lib.hid hccb
  have HPT := Lib.hid hpt
  have hPm : ∀ k, k < P.length → P.getD k (0, 0) ∈ P := fun k hk => by
    rw [show P.getD k (0, 0) = P[k] by simp [hk]]
    exact List.getElem_mem hk
  have HPM := Lib.hid hPm
  rw [HSF.out]
  generalize fewSum north cols east svs lofts = F at *
  generalize lowC north east svs a P = la at *
  generalize lowC north east svs b P = lb at *
  clear hcca hccb hpt hPm hownC hownL hCA hgC hGl hGc bc b8c gwc gwa g0 hbL htL HLE HCO HPA HT HLA HLB HSF
  go_wp2
  go_loopw [15, 16, 17] (fun lo hi i wr => ∃ k : Nat, k ≤ P.length ∧ i = .int .i64 k ∧ lo = .int .i64 (loL (alld (P.take k) P)) ∧ hi = .int .i64 (hiL (alld (P.take k) P)) ∧ G wl wr) (fun _ _ i _ => P.length - (intOf i).toNat)
  case atStart => exact ⟨0, Nat.zero_le _, rfl, by rw [List.take_zero, HA0.out]; rfl, by rw [List.take_zero, HA0.out]; rfl, G.rf _⟩
  case round =>
    obtain ⟨k, hk, rfl, rfl, rfl, hGr⟩ := hrel
    obtain ⟨wo, rfl⟩ : ∃ wo, wo = wr := ⟨_, rfl⟩
    by_cases hlt : k < P.length
    · have hki : (k : Int) < P.length := by omega
      have HS1 := Lib.hid (HALL.out P P k hlt)
      have hpm := HPM.out k hlt
      have Hpt := Lib.hid (HPT.out k hlt)
      have Hca := Lib.hid (HCCA.out k hlt)
      have hclk := HCL.out a k hlt
      have hcb := HC16.out a (P.getD k (0, 0))
      rw [Lib.hid hclk |>.out] at Hca
      clear hclk
      generalize P.getD k (0, 0) = p at *
      generalize alld (P.take k) P = D at *
      have HGr := Lib.hid hGr
      clear hGr
      go_wp2
      go_loopw [15, 16, 18] (fun lo hi i wx => ∃ j : Nat, j ≤ P.length ∧ i = .int .i64 j ∧ lo = .int .i64 (loL (D ++ rowd p (P.take j))) ∧ hi = .int .i64 (hiL (D ++ rowd p (P.take j))) ∧ G wl wx) (fun _ _ i _ => P.length - (intOf i).toNat)
      case atStart => exact ⟨0, Nat.zero_le _, rfl, by rw [List.take_zero, HR0.out, List.append_nil], by rw [List.take_zero, HR0.out, List.append_nil], HGr.out⟩
      case round =>
        obtain ⟨j, hj, rfl, rfl, rfl, hGx⟩ := hrel
        obtain ⟨wx, rfl⟩ : ∃ wx, wx = wr := ⟨_, rfl⟩
        by_cases hlt2 : j < P.length
        · have hji : (j : Int) < P.length := by omega
          have hqm := HPM.out j hlt2
          have hsn := HROW.out p P j hlt2
          obtain ⟨qt0, qt1⟩ := (HPT.out).keep hgA hGx j hlt2
          obtain ⟨pt0, pt1⟩ := Hpt.out
          have hcj := (HCCB.out j hlt2)
          rw [HCL.out b j hlt2] at hcj
          have hcb2 := HC16.out b (P.getD j (0, 0))
          have hok := HOK.out p (P.getD j (0, 0))
          generalize P.getD j (0, 0) = q at *
          have HSQ2 := Lib.hid (fun (W : World) (hW : G w W) => HSQ.out W hW p q hpm hqm)
          obtain ⟨px, py⟩ := p
          obtain ⟨qx, qy⟩ := q
          generalize hca : cost north east svs a (px, py) = ca at *
          generalize hcbb : cost north east svs b (qx, qy) = cb at *
          clear hca hcbb
          have x1 : IntKind.i64.wrap ((F : Int) - la) = (F : Int) - la := IntWalk.i64_in _ (by omega)
          have x2 : IntKind.i64.wrap ((F : Int) - la - lb) = (F : Int) - la - lb := IntWalk.i64_in _ (by omega)
          have x3 : IntKind.i64.wrap ((F : Int) - la - lb + ca) = (F : Int) - la - lb + ca := IntWalk.i64_in _ (by omega)
          have x4 : IntKind.i64.wrap ((F : Int) - la - lb + ca + cb) = (F : Int) - la - lb + ca + cb := IntWalk.i64_in _ (by omega)
          have b1 := bw.keep hGx
          have m0 := b1.gw 0 rfl
          have m1 := b1.gw 1 rfl
          have m2 := b1.gw 2 rfl
          have m3 := b1.gw 3 rfl
          have m4 := b1.gw 4 rfl
          have m5 := b1.gw 5 rfl
          have c0 := GW.cell (((bcellB hGx).1 gL _ hgL).trans cLa) (Nat.lt_of_lt_of_le hgL hGx.size)
          have c1 := GW.cell (((bcellB hGx).1 gL _ hgL).trans cLb) (Nat.lt_of_lt_of_le hgL hGx.size)
          have c2 := GW.cell (((bcellB hGx).1 gC _ hgC2).trans cCa) (Nat.lt_of_lt_of_le hgC2 hGx.size)
          have c3 := GW.cell (((bcellB hGx).1 gC _ hgC2).trans cCb) (Nat.lt_of_lt_of_le hgC2 hGx.size)
          have c4 := GW.cell (((bcellB hGx).1 gi _ hgi).trans Hca.out) (Nat.lt_of_lt_of_le hgi hGx.size)
          have c5 := GW.cell (((bcellB hGx).1 gj _ hgj).trans hcj) (Nat.lt_of_lt_of_le hgj hGx.size)
          have l1 := b1.lt
          have lA := Nat.lt_of_lt_of_le hgA hGx.size
          have p0 := GW.cell (((bcellB hGx).1 gA _ hgA).trans pt0) lA
          have p1 := GW.cell (((bcellB hGx).1 gA _ hgA).trans pt1) lA
          have q0 := GW.cell qt0 lA
          have q1 := GW.cell qt1 lA
          have gx := gww.t hGx
          have HS := Lib.hid hsn
          clear hsn hcj pt0 pt1 qt0 qt1
          by_cases hle : (F : Int) - la - lb + ca + cb ≤ wrong
          · have hgt : ¬ wrong < (F : Int) - la - lb + ca + cb := by omega
            have hS2 : rowd (px, py) (P.take (j + 1)) = rowd (px, py) (P.take j) ++ [sqI north east px py qx qy] := by rw [HS.out, if_pos (by rw [hok]; simpa using hle)]
            have hS3 : loL (D ++ rowd (px, py) (P.take (j + 1))) = if loL (D ++ rowd (px, py) (P.take j)) < 0 ∨ sqI north east px py qx qy < loL (D ++ rowd (px, py) (P.take j)) then sqI north east px py qx qy else loL (D ++ rowd (px, py) (P.take j)) := by rw [hS2, ← List.append_assoc, loL_snoc]
            have hS4 : hiL (D ++ rowd (px, py) (P.take (j + 1))) = max (hiL (D ++ rowd (px, py) (P.take j))) (sqI north east px py qx qy) := by rw [hS2, ← List.append_assoc, hiL_snoc]
            have HS3 := Lib.hid hS3
            have HS4 := Lib.hid hS4
            clear hS2 hS3 hS4 HS hok
            generalize sqI north east px py qx qy = sq at *
            generalize loL (D ++ rowd (px, py) (P.take j)) = lo at *
            generalize hiL (D ++ rowd (px, py) (P.take j)) = hi at *
            go_wp2
            refine wp_region_quiet_G (by kernel_rfl) (by kernel_rfl) ?_
            repeat (quiet_step (fail))
            refine wpQuiet_nil ?_
            intro _ hw'
            obtain ⟨y, rfl⟩ := hw'
            clear c0 c1 c2 c3 c4 c5
            have gy := gx.t y.g
            have gly := hGx.t y.g
            have ly := b1.keep y.g
            have hA2 := Nat.lt_of_lt_of_le lA y.g.size
            have e0 := p0 y
            have e1 := p1 y
            have f0 := q0 y
            have f1 := q1 y
            clear m0 m1 m2 m3 m4 m5 p0 p1 q0 q1
            generalize y.w = wy at *
            clear y
            have m0 := ly.gw 0 rfl
            have m1 := ly.gw 1 rfl
            have m2 := ly.gw 2 rfl
            have m3 := ly.gw 3 rfl
            have m4 := ly.gw 4 rfl
            have m5 := ly.gw 5 rfl
            have p0 := GW.cell e0 hA2
            have p1 := GW.cell e1 hA2
            have q0 := GW.cell f0 hA2
            have q1 := GW.cell f1 hA2
            clear e0 e1 f0 f1
            go_wp2
            refine wp_region_quiet_G (by kernel_rfl) (by kernel_rfl) ?_
            repeat (quiet_step (first | (go_at_call 18; exact Calls.gq (HSQ2.out _ (gy.t (GW.g _))))))
            refine wpQuiet_nil ?_
            intro _ hw'
            obtain ⟨y, rfl⟩ := hw'
            clear m0 m1 m2 m3 m4 m5 p0 p1 q0 q1
            have gz := gly.t y.g
            generalize y.w = wz at *
            clear y
            by_cases h1 : lo < 0
            · have H3 := Lib.hid (HS3.out.trans (if_pos (.inl h1)))
              clear HS3
              go_wp2
              go_roundw
              case rel => exact ⟨j + 1, by omega, by go_num, by rw [H3.out], by rw [HS4.out], gz⟩
              case measure => simp [intOf]; omega
            · by_cases h2 : sq < lo
              · have H3 := Lib.hid (HS3.out.trans (if_pos (.inr h2)))
                clear HS3
                go_wp2
                go_roundw
                case rel => exact ⟨j + 1, by omega, by go_num, by rw [H3.out], by rw [HS4.out], gz⟩
                case measure => simp [intOf]; omega
              · have H3 := Lib.hid (HS3.out.trans (if_neg (by omega)))
                clear HS3
                go_wp2
                go_roundw
                case rel => exact ⟨j + 1, by omega, by go_num, by rw [H3.out], by rw [HS4.out], gz⟩
                case measure => simp [intOf]; omega
          · have hgt : wrong < (F : Int) - la - lb + ca + cb := by omega
            have hS2 : rowd (px, py) (P.take (j + 1)) = rowd (px, py) (P.take j) := by rw [HS.out, if_neg (by rw [hok]; simpa using hle)]
            have HS2 := Lib.hid hS2
            clear hS2 HS hok
            go_wp2
            refine wp_region_quiet_G (by kernel_rfl) (by kernel_rfl) ?_
            repeat (quiet_step (fail))
            refine wpQuiet_nil ?_
            intro _ hw'
            obtain ⟨y, rfl⟩ := hw'
            clear c0 c1 c2 c3 c4 c5 m0 m1 m2 m3 m4 m5 p0 p1 q0 q1
            have gz := hGx.t y.g
            generalize y.w = wz at *
            clear y
            go_wp2
            go_roundw
            case rel => exact ⟨j + 1, by omega, by go_num, by rw [HS2.out], by rw [HS2.out], gz⟩
            case measure => simp [intOf]; omega
        · have hji : ¬ (j : Int) < P.length := by omega
          have hT : P.take j = P := List.take_of_length_le (by omega)
          rw [hT, ← HS1.out]
          clear hT
          go_wp2
          go_roundw
          case rel => exact ⟨k + 1, by omega, by go_num, rfl, rfl, hGx⟩
          case measure => simp [intOf]; omega
    · have hki : ¬ (k : Int) < P.length := by omega
      have hT : P.take k = P := List.take_of_length_le (by omega)
      rw [hT]
      clear hT
      obtain ⟨lo, hlo⟩ : ∃ lo, lo = loL (alld P P) := ⟨_, rfl⟩
      obtain ⟨hi, hhi⟩ : ∃ hi, hi = hiL (alld P P) := ⟨_, rfl⟩
      rw [← hlo] at HRL
      rw [← hhi] at HRH
      rw [← hlo, ← hhi]
      have Hlo := Lib.hid hlo
      have Hhi := Lib.hid hhi
      clear hlo hhi
      have gk := gww.t hGr
      have b8k := b8w.keep hGr
      go_wp2_with (first | (go_at_call 69; refine (HRL.out _).mono ?_; rintro e w1 ⟨rfl, hG1⟩; clear HRL; replace b8k := b8k.keep hG1; replace gk := gk.t hG1; clear hG1) | (go_at_call 69; refine (HRH.out _).mono ?_; rintro e w1 ⟨rfl, hG1⟩; clear HRH; replace b8k := b8k.keep hG1; replace gk := gk.t hG1; clear hG1; have z8 := b8k.lt; have y0 := b8k.cell 0; have y1 := b8k.cell 1; have z0 := b8k.frozen 0; have z1 := b8k.frozen 1))
      refine bodyPost_ret (v := .tuple #[.agg #[.int .i64 (rnd rule lo.toNat), .int .i64 (rnd rule hi.toNat)], .int .i64 0]) (res44 rfl rfl (set46 b8k)) rfl ⟨by rw [Hlo.out, Hhi.out], ?_⟩
      exact (gk.s (Nat.le_succ _) _).s (Nat.le_succ _) _
end
end Go.Proofs.Ytpjfdfddcnocpaa
