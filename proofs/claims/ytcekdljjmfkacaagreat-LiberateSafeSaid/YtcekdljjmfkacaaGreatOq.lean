import Derived.Test.YtcekdljjmfkacaaGreatOn
set_option linter.unusedSimpArgs false
set_option linter.unusedVariables false
namespace Go.Proofs.YtcekdljjmfkacaaGreat
open Go.RowKit Go.Shelf
attribute [local go_sem] Oper.semAt_some wide_fn wide_dep wideR_fn wideR_dep
/-- how far: the sums of the first lengths -/
def farS (ln : Nat → Nat) (k : Nat) : Nat := ((List.range k).map ln).sum
theorem farS_succ (ln : Nat → Nat) (k : Nat) : farS ln (k + 1) = farS ln k + ln k := by
  unfold farS
  rw [List.range_succ, List.map_append, List.sum_append]
  simp
def farV (ln : Nat → Nat) (n : Nat) : List Value := (List.range n).map fun k => Value.int .i64 ((farS ln k : Nat) : Int)
theorem farV_succ (ln : Nat → Nat) (n : Nat) : farV ln (n + 1) = farV ln n ++ [.int .i64 ((farS ln n : Nat) : Int)] := by
  unfold farV
  rw [List.range_succ, List.map_append]
  rfl
theorem farV_len (ln : Nat → Nat) (n : Nat) : (farV ln n).length = n := by simp [farV]
theorem farV_get (ln : Nat → Nat) {n k : Nat} (h : k < n) : (farV ln n)[k]? = some (.int .i64 ((farS ln k : Nat) : Int)) := by simp [farV, h]
def FarPost (w : World) (ln : Nat → Nat) (n : Nat) (e : Ending) (w' : World) : Prop := ∃ v, e = .returned v ∧ w'.ownsRow w.heap.size 3 1 v n (farV ln n) ∧ G w w'
section
variable (hi : Nat) (REL : Array Value) (m0 m1 m3 m5 : Int) (ea sa : Option Addr) (el ec sn sc : Nat) (P : List (Nat × Nat)) (ln : Nat → Nat) (w : World)
set_option maxRecDepth 100000 in
set_option maxHeartbeats 8000000 in
theorem refFar_walk (hIs : IsRel REL) (h0 : REL[0]? = some (.int .i64 m0)) (h1 : REL[1]? = some (.int .i64 m1)) (h2 : REL[2]? = some (.slice ea el ec)) (h3 : REL[3]? = some (.int .i64 m3)) (h4 : REL[4]? = some (.slice sa sn sc)) (h5 : REL[5]? = some (.int .i64 m5))
    (hP : 1 ≤ P.length ∧ P.length ≤ 100) (hln : ∀ j, j < P.length → ln j ≤ 100000000) (hW : ∀ W, G w W → Calls Tryz.prog 42 #[.agg REL, .int .i64 (hi : Nat)] W (PbPost W P))
    (hL : ∀ j, j + 1 < P.length → ∀ W, G w W → Calls Tryz.prog 62 #[.agg #[.int .i64 m0, .int .i64 m1, .slice ea el ec, .int .i64 m3, .slice sa sn sc, .int .i64 m5], .agg #[.int .i64 ((P.getD j (0, 0)).1 : Nat), .int .i64 ((P.getD j (0, 0)).2 : Nat)], .agg #[.int .i64 ((P.getD (j + 1) (0, 0)).1 : Nat), .int .i64 ((P.getD (j + 1) (0, 0)).2 : Nat)], .int .i64 0] W fun e w' => e = .returned (.tuple #[.int .i64 (ln j : Nat), .int .i64 0]) ∧ G W w') :
    Calls Tryz.prog 27 #[.agg REL, .int .i64 (hi : Nat)] w (FarPost w ln P.length) := by
  have HWY := Lib.hid hW
  have HLN := Lib.hid hL
  have HLB := Lib.hid hln
  have hfb : ∀ k, k ≤ P.length → farS ln k ≤ k * 100000000 := by
    intro k
    induction k with
    | zero => intro _; simp [farS]
    | succ k ih =>
      intro hk
      have a := ih (by omega)
      have b := hln k (by omega)
      rw [farS_succ]
      omega
  have HFB := Lib.hid hfb
  clear hW hL hln hfb
  have HPP : Hid (∀ w' v, w'.ownsRow w.heap.size 3 1 v P.length (farV ln P.length) → G w w' → FarPost w ln P.length (.returned v) w') := fun w' v a b => ⟨v, rfl, a, b⟩
  generalize FarPost w ln P.length = PP at *
  have g0 : G w (w.alloc (.cells REL 35)) := (G.rf _).a _
  have b0 : Blk (w.alloc (.cells REL 35)) w.heap.size 35 REL := Blk.new w 35 REL
  obtain ⟨i0, hi0, hz0, hz1, hz2⟩ := info_parts info3
  go_enter Tryz.func27, Tryz.ntmps27
  go_upto_region 1 with fail
  change Code.wp _ _ _ _ (w.alloc (.cells REL 35))
  generalize w.alloc (.cells REL 35) = w1 at *
  refine wp_region_lit ?_
  refine wpList_load35 w.heap.size 2 hIs rfl rfl rfl b0 ?_
  try simp only [Act.put, List.getElem_toArray, List.getElem_cons_zero, List.getElem_cons_succ, List.setIfInBounds_toArray, List.set_cons_zero, List.set_cons_succ]
  go_wp2_with (go_at_call 42; refine (HWY.out _ g0).mono ?_; rintro e wa ⟨vA, rfl, hownA, hGa⟩; obtain ⟨gA, capA, eA, hgA, hpt⟩ := pts_own rfl hownA (by omega); subst eA; clear hownA)
  replace b0 := b0.keep hGa
  replace g0 := g0.t hGa
  have HOW := Lib.hid (own_one (Blk.new wa 3 #[.int .i64 0]))
  have nG : G wa (wa.alloc (.cells #[.int .i64 0] 3)) := (G.rf _).a _
  have HPT := Lib.hid hpt
  clear hpt hGa HWY
  generalize wa.alloc (.cells #[.int .i64 0] 3) = w3 at *
  go_loopw [6, 7, 8, 9] (fun v i u8 u9 wr => ∃ q : Nat, q + 1 ≤ P.length ∧ i = .int .i64 ((q + 1 : Nat) : Int) ∧ wr.ownsRow wa.heap.size 3 1 v (q + 1) (farV ln (q + 1)) ∧ G wa wr) (fun _ i _ _ _ => P.length + 1 - (intOf i).toNat)
  case atStart => exact ⟨0, hP.1, rfl, HOW.out, nG⟩
  case round =>
    clear nG HOW
    obtain ⟨q, hq, rfl, ho, hG⟩ := hrel
    obtain ⟨wo, rfl⟩ : ∃ wo, wo = wr := ⟨_, rfl⟩
    obtain ⟨gO, capO, curO, rfl, hbO, hgO, htO⟩ := own_some ho (by omega)
    have hc0 := take_cell hbO htO (by omega) (farV_get ln (show q < q + 1 by omega))
    have HO := Lib.hid ho
    clear ho hbO htO
    have gw := g0.t hG
    obtain ⟨j, hj⟩ : ∃ j, j = q + 1 := ⟨_, rfl⟩
    have HJ := Lib.hid hj
    by_cases hlt : q + 1 < P.length
    · have HL := Lib.hid (fun (W : World) (hW : G w W) => HLN.out q hlt W hW)
      have hl1 := HLB.out q (by omega)
      have hf1 := HFB.out q (by omega)
      have HFS := Lib.hid (farV_succ ln (q + 1))
      have HF2 := Lib.hid (farS_succ ln q)
      have pA := (HPT.out.keep hgA hG) q (by omega)
      have pB := (HPT.out.keep hgA hG) (q + 1) hlt
      rw [← hj] at pB HL HFS HF2 hlt
      obtain ⟨pa1, pa2⟩ := pA
      obtain ⟨pb1, pb2⟩ := pB
      obtain ⟨ax, hax⟩ : ∃ ax, ax = (P.getD q (0, 0)).1 := ⟨_, rfl⟩
      obtain ⟨ay, hay⟩ : ∃ ay, ay = (P.getD q (0, 0)).2 := ⟨_, rfl⟩
      obtain ⟨cx, hcx⟩ : ∃ cx, cx = (P.getD j (0, 0)).1 := ⟨_, rfl⟩
      obtain ⟨cy, hcy⟩ : ∃ cy, cy = (P.getD j (0, 0)).2 := ⟨_, rfl⟩
      rw [← hax] at pa1 HL
      rw [← hay] at pa2 HL
      rw [← hcx] at pb1 HL
      rw [← hcy] at pb2 HL
      clear hax hay hcx hcy
      have b0q := b0.keep hG
      have lA := Nat.lt_of_lt_of_le hgA hG.size
      have hjP : (j : Int) < P.length := by omega
      have hqP : (q : Int) < P.length := by omega
      have xq : IntKind.i64.wrap ((j : Int) - 1) = (q : Int) := by rw [IntWalk.i64_in _ (by omega), hj]; omega
      have hqj : (q : Int) < ((j : Nat) : Int) := by omega
      rw [← hj] at HO ⊢
      have hSk : ∀ W', G wo W' → (Blk W' w.heap.size 35 REL ∧ (W'.cell? ⟨gA, q * 2, none⟩ = some (.int .i64 (ax : Nat)) ∧ W'.cell? ⟨gA, q * 2 + 1, none⟩ = some (.int .i64 (ay : Nat))) ∧ W'.cell? ⟨gA, j * 2, none⟩ = some (.int .i64 (cx : Nat)) ∧ W'.cell? ⟨gA, j * 2 + 1, none⟩ = some (.int .i64 (cy : Nat))) := fun W' h => ⟨b0q.keep h, ⟨((bcellB h).1 gA _ lA).trans pa1, ((bcellB h).1 gA _ lA).trans pa2⟩, ((bcellB h).1 gA _ lA).trans pb1, ((bcellB h).1 gA _ lA).trans pb2⟩
      clear pa1 pa2 pb1 pb2 HLN HLB HFB hj
      go_wp2_with fail
      refine wp_region_Y (S := fun W' => Blk W' w.heap.size 35 REL ∧ (W'.cell? ⟨gA, q * 2, none⟩ = some (.int .i64 (ax : Nat)) ∧ W'.cell? ⟨gA, q * 2 + 1, none⟩ = some (.int .i64 (ay : Nat))) ∧ W'.cell? ⟨gA, j * 2, none⟩ = some (.int .i64 (cx : Nat)) ∧ W'.cell? ⟨gA, j * 2 + 1, none⟩ = some (.int .i64 (cy : Nat))) 16 17 rfl (by kernel_rfl) (hSk _ (G.rf _).d) (fun hS => ?_)
      refine wpAnyY_take (i := 0) (v := ?_) rfl (by kernel_rfl) (by kernel_rfl) (by kernel_rfl) (by kernel_rfl) (fun _ _ _ h => h) (Or.inl ⟨by kernel_rfl, ?_⟩) hS ?_
      rotate_left
      · intro w' hSw; go_simp; with_reducible rfl
      try simp only [Act.put, List.getElem_toArray, List.getElem_cons_zero, List.getElem_cons_succ, List.setIfInBounds_toArray, List.set_cons_zero, List.set_cons_succ]
      refine wpAnyY_take (i := 1) (v := ?_) rfl (by kernel_rfl) (by kernel_rfl) (by kernel_rfl) (by kernel_rfl) (fun _ _ _ h => h) (Or.inl ⟨by kernel_rfl, ?_⟩) hS ?_
      rotate_left
      · intro w' hSw; have e0 := (hSw.1.cell 0).trans h0; have e1 := (hSw.1.cell 1).trans h1; have e2 := (hSw.1.cell 2).trans h2; have e3 := (hSw.1.cell 3).trans h3; have e4 := (hSw.1.cell 4).trans h4; have e5 := (hSw.1.cell 5).trans h5; have lb := hSw.1.lt; go_simp; with_reducible rfl
      try simp only [Act.put, List.getElem_toArray, List.getElem_cons_zero, List.getElem_cons_succ, List.setIfInBounds_toArray, List.set_cons_zero, List.set_cons_succ]
      refine wpAnyY_take (i := 2) (v := ?_) rfl (by kernel_rfl) (by kernel_rfl) (by kernel_rfl) (by kernel_rfl) (fun _ _ _ h => h) (Or.inl ⟨by kernel_rfl, ?_⟩) hS ?_
      rotate_left
      · intro w' hSw; go_simp; with_reducible rfl
      try simp only [Act.put, List.getElem_toArray, List.getElem_cons_zero, List.getElem_cons_succ, List.setIfInBounds_toArray, List.set_cons_zero, List.set_cons_succ]
      refine wpAnyY_take (i := 3) (v := ?_) rfl (by kernel_rfl) (by kernel_rfl) (by kernel_rfl) (by kernel_rfl) (fun _ _ _ h => h) (Or.inl ⟨by kernel_rfl, ?_⟩) hS ?_
      rotate_left
      · intro w' hSw; go_simp; with_reducible rfl
      try simp only [Act.put, List.getElem_toArray, List.getElem_cons_zero, List.getElem_cons_succ, List.setIfInBounds_toArray, List.set_cons_zero, List.set_cons_succ]
      refine wpAnyY_take (i := 4) (v := ?_) rfl (by kernel_rfl) (by kernel_rfl) (by kernel_rfl) (by kernel_rfl) (fun _ _ _ h => h) (Or.inl ⟨by kernel_rfl, ?_⟩) hS ?_
      rotate_left
      · intro w' hSw; go_simp; with_reducible rfl
      try simp only [Act.put, List.getElem_toArray, List.getElem_cons_zero, List.getElem_cons_succ, List.setIfInBounds_toArray, List.set_cons_zero, List.set_cons_succ]
      refine wpAnyY_take (i := 5) (v := ?_) rfl (by kernel_rfl) (by kernel_rfl) (by kernel_rfl) (by kernel_rfl) (fun _ _ _ h => h) (Or.inl ⟨by kernel_rfl, ?_⟩) hS ?_
      rotate_left
      · intro w' hSw; go_simp; with_reducible rfl
      try simp only [Act.put, List.getElem_toArray, List.getElem_cons_zero, List.getElem_cons_succ, List.setIfInBounds_toArray, List.set_cons_zero, List.set_cons_succ]
      refine wpAnyY_take (i := 6) (v := ?_) rfl (by kernel_rfl) (by kernel_rfl) (by kernel_rfl) (by kernel_rfl) (fun _ _ _ h => h) (Or.inl ⟨by kernel_rfl, ?_⟩) hS ?_
      rotate_left
      · intro w' hSw; have e0 := hSw.2.1.1; have e1 := hSw.2.1.2; go_simp; with_reducible rfl
      try simp only [Act.put, List.getElem_toArray, List.getElem_cons_zero, List.getElem_cons_succ, List.setIfInBounds_toArray, List.set_cons_zero, List.set_cons_succ]
      refine wpAnyY_take (i := 7) (v := ?_) rfl (by kernel_rfl) (by kernel_rfl) (by kernel_rfl) (by kernel_rfl) (fun _ _ _ h => h) (Or.inl ⟨by kernel_rfl, ?_⟩) hS ?_
      rotate_left
      · intro w' hSw; go_simp; with_reducible rfl
      try simp only [Act.put, List.getElem_toArray, List.getElem_cons_zero, List.getElem_cons_succ, List.setIfInBounds_toArray, List.set_cons_zero, List.set_cons_succ]
      refine wpAnyY_take (i := 8) (v := ?_) rfl (by kernel_rfl) (by kernel_rfl) (by kernel_rfl) (by kernel_rfl) (fun _ _ _ h => h) (Or.inl ⟨by kernel_rfl, ?_⟩) hS ?_
      rotate_left
      · intro w' hSw; go_simp; with_reducible rfl
      try simp only [Act.put, List.getElem_toArray, List.getElem_cons_zero, List.getElem_cons_succ, List.setIfInBounds_toArray, List.set_cons_zero, List.set_cons_succ]
      refine wpAnyY_take (i := 9) (v := ?_) rfl (by kernel_rfl) (by kernel_rfl) (by kernel_rfl) (by kernel_rfl) (fun _ _ _ h => h) (Or.inl ⟨by kernel_rfl, ?_⟩) hS ?_
      rotate_left
      · intro w' hSw; go_simp; with_reducible rfl
      try simp only [Act.put, List.getElem_toArray, List.getElem_cons_zero, List.getElem_cons_succ, List.setIfInBounds_toArray, List.set_cons_zero, List.set_cons_succ]
      refine wpAnyY_take (i := 10) (v := ?_) rfl (by kernel_rfl) (by kernel_rfl) (by kernel_rfl) (by kernel_rfl) (fun _ _ _ h => h) (Or.inl ⟨by kernel_rfl, ?_⟩) hS ?_
      rotate_left
      · intro w' hSw; have e0 := hSw.2.2.1; have e1 := hSw.2.2.2; go_simp; with_reducible rfl
      try simp only [Act.put, List.getElem_toArray, List.getElem_cons_zero, List.getElem_cons_succ, List.setIfInBounds_toArray, List.set_cons_zero, List.set_cons_succ]
      have ga := (G.rf wo).d
      refine wpAnyY_oneSW (i := 11) (by kernel_rfl) rfl (by kernel_rfl) (fun K11 hK11 => ?_)
      go_simp
      refine (HL.out _ (gw.t ga)).mono ?_
      rintro e wc ⟨rfl, hG11⟩
      replace ga := ga.t hG11
      refine hK11.out _ _ (hSk _ ga) (fun hS => ?_)
      try simp only [Act.put, List.getElem_toArray, List.getElem_cons_zero, List.getElem_cons_succ, List.setIfInBounds_toArray, List.set_cons_zero, List.set_cons_succ]
      refine wpAnyY_take (i := 12) (v := ?_) rfl (by kernel_rfl) (by kernel_rfl) (by kernel_rfl) (by kernel_rfl) (fun _ _ _ h => h) (Or.inl ⟨by kernel_rfl, ?_⟩) hS ?_
      rotate_left
      · intro w' hSw; go_simp; with_reducible rfl
      try simp only [Act.put, List.getElem_toArray, List.getElem_cons_zero, List.getElem_cons_succ, List.setIfInBounds_toArray, List.set_cons_zero, List.set_cons_succ]
      refine wpAnyY_take (i := 13) (v := ?_) rfl (by kernel_rfl) (by kernel_rfl) (by kernel_rfl) (by kernel_rfl) (fun _ _ _ h => h) (Or.inl ⟨by kernel_rfl, ?_⟩) hS ?_
      rotate_left
      · intro w' hSw; go_simp; with_reducible rfl
      try simp only [Act.put, List.getElem_toArray, List.getElem_cons_zero, List.getElem_cons_succ, List.setIfInBounds_toArray, List.set_cons_zero, List.set_cons_succ]
      refine wpAnyY_take (i := 14) (v := ?_) rfl (by kernel_rfl) (by kernel_rfl) (by kernel_rfl) (by kernel_rfl) (fun _ _ _ h => h) (Or.inl ⟨by kernel_rfl, ?_⟩) hS ?_
      rotate_left
      · intro w' hSw; go_simp; with_reducible rfl
      try simp only [Act.put, List.getElem_toArray, List.getElem_cons_zero, List.getElem_cons_succ, List.setIfInBounds_toArray, List.set_cons_zero, List.set_cons_succ]
      refine wpAnyY_oneSW (i := 15) (by kernel_rfl) rfl (by kernel_rfl) (fun K15 hK15 => ?_)
      go_simp
      refine hK15.out _ _ (hSk _ ga) (fun hS => ?_)
      try simp only [Act.put, List.getElem_toArray, List.getElem_cons_zero, List.getElem_cons_succ, List.setIfInBounds_toArray, List.set_cons_zero, List.set_cons_succ]
      refine wpAnyY_oneW (i := 16) (by kernel_rfl) rfl (by kernel_rfl) (by kernel_rfl) (fun K16 hK16 => ?_)
      go_simp
      refine hK16.out _ _ ?_
      try simp only [Act.put, List.getElem_toArray, List.getElem_cons_zero, List.getElem_cons_succ, List.setIfInBounds_toArray, List.set_cons_zero, List.set_cons_succ]
      refine wpAnyY_done (by kernel_rfl) ?_ _
      clear hS hSk
      have gO2 := Nat.lt_of_lt_of_le hgO ga.size
      have c0 := ((bcellB ga).1 gO _ hgO).trans hc0
      have hO2 := own_G HO.out ga
      have gG := hG.t ga
      obtain ⟨lq, hlq⟩ : ∃ lq, lq = ln q := ⟨_, rfl⟩
      obtain ⟨fq, hfq⟩ : ∃ fq, fq = farS ln q := ⟨_, rfl⟩
      rw [← hlq] at HF2 hl1 ⊢
      rw [← hfq] at HF2 hf1 c0
      have xs : IntKind.i64.wrap ((fq : Int) + lq) = ((farS ln j : Nat) : Int) := by rw [IntWalk.i64_in _ (by omega), HF2.out]; omega
      have xj : IntKind.i64.wrap ((j : Int) + 1) = ((j + 1 : Nat) : Int) := by rw [IntWalk.i64_in _ (by omega)]; rfl
      clear hlq hfq hc0 HL K11 hK11 K15 hK15 K16 hK16
      go_wp2_with (at_builtin; refine wpList_append_own _ rfl _ _ 22 rfl wa.heap.size 3 i0 (.int .i64 0) 1 8 Tryz.underlying22 hi0 hz0 hz1 hz2 rfl (by decide) _ j (farV ln j) rfl ?hown ⟨_, 0, none⟩ 1 1 [.int .i64 ((farS ln j : Nat) : Int)] rfl rfl (cell_one_new _ _ _) (by simp [Value.oneCell']) (by unfold maxLen; omega) (by omega) ?hbase ?hrest)
      case hown => exact own_G hO2 ((G.rf _).a _)
      case hbase => exact (gG.a _).size
      case hrest =>
        intro v9 w9 hown9 hg9 _
        have gz : G wa w9 := grow_own (gG.a _) (own_G hO2 ((G.rf _).a _)) (Nat.le_refl _) hg9
        have HN := Lib.hid hown9
        clear hown9 hg9
        go_wp2
        go_roundw
        case rel => exact ⟨j, by omega, by go_num, by rw [HFS.out]; exact HN.out, gz⟩
        case measure => simp [intOf]; omega
    · have e : q + 1 = P.length := by omega
      have hji : ¬ (((q + 1 : Nat) : Int)) < P.length := by omega
      have HF := Lib.hid (HPP.out wo _ (by rw [← e]; exact own_weaken HO.out g0.size) gw)
      rw [e] at HF hji ⊢
      clear e hq hj HJ
      go_wp2
      exact HF.out
end
end Go.Proofs.YtcekdljjmfkacaaGreat
