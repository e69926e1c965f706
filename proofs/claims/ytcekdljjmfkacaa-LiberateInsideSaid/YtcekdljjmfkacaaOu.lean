import Derived.Test.YtcekdljjmfkacaaOt
set_option linter.unusedSimpArgs false
set_option linter.unusedVariables false
namespace Go.Proofs.Ytcekdljjmfkacaa
open Go.RowKit Go.Shelf
attribute [local go_sem] Oper.semAt_some wide_fn wide_dep wideR_fn wideR_dep
theorem rRefWay {r : Rl} {w : World} (h : r.Ok w) {i : Nat} (hi : i < r.n) : Calls Try.prog 84 #[.agg r.v, .int .i64 (i : Nat)] w (PbPost w (r.P i)) := by
  have hN := h.nums
  have hb := hN.base
  have hh := hN.homes i hi
  have hc := hN.cols
  have hr := hN.rows
  rcases h.hH with hz | ⟨gH, oH, e, hgH, hcell⟩
  · omega
  have p0 := hcell i hi 0 (by omega)
  have p1 := hcell i hi 1 (by omega)
  rw [Nat.add_zero] at p0
  exact refWay_walk r.bx r.bY (r.hx i) (r.hy i) i r.n r.hc gH oH r.v w (rIs r) rfl rfl (by show some (Value.slice r.ha r.n r.hc) = _; rw [e]) hi hgH p0 p1 (by omega) (by omega) (by omega) (by omega)
def Rl.ln (r : Rl) (i : Nat) (j : Nat) : Nat := lenS r.north r.east (r.P i) j
theorem rLen0 {r : Rl} {w : World} (h : r.Ok w) {i j : Nat} (hi : i < r.n) (hj : j + 1 < r.ns i) : Calls Try.prog 85 #[.agg #[.int .i64 r.north, .int .i64 (r.cols : Nat), .slice r.ea r.east.length r.ec, .int .i64 (r.lofts : Nat), .slice r.sa r.svs.length r.sc, .int .i64 r.wrong], .agg #[.int .i64 (((r.P i).getD j (0, 0)).1 : Nat), .int .i64 (((r.P i).getD j (0, 0)).2 : Nat)], .agg #[.int .i64 (((r.P i).getD (j + 1) (0, 0)).1 : Nat), .int .i64 (((r.P i).getD (j + 1) (0, 0)).2 : Nat)], .int .i64 0] w fun e w' => e = .returned (.tuple #[.int .i64 (r.ln i j : Nat), .int .i64 0]) ∧ G w w' := by
  have hN := h.nums
  have hvb := vm_bounds (checkE_ok h.hk)
  have hl2 := (checkE_zero h.hk).2.1
  have h1 := Rl.P_in hN hi (show j < r.ns i by omega)
  have h2 := Rl.P_in hN hi hj
  have hr := hN.rows
  refine (rLength_any r.north r.cols r.lofts r.wrong ((r.P i).getD j (0, 0)).1 ((r.P i).getD j (0, 0)).2 ((r.P i).getD (j + 1) (0, 0)).1 ((r.P i).getD (j + 1) (0, 0)).2 0 r.east r.svs r.ea r.sa r.ec r.sc w h.he h.hs (by omega) (by omega)).mono fun e w' hh => ?_
  obtain ⟨e1, hG⟩ := hh
  refine ⟨?_, hG⟩
  rw [e1]
  unfold lenV
  rw [if_pos h.hk, plB h1.1 h1.2, plB h2.1 h2.2]
  have hmin : min (j + 1) ((r.P i).length - 1) = j + 1 := by have : j + 1 < (r.P i).length := hj; omega
  unfold Rl.ln lenS
  rw [hmin]
  rfl
theorem rRefFar {r : Rl} {w : World} (h : r.Ok w) {i : Nat} (hi : i < r.n) : Calls Try.prog 57 #[.agg r.v, .int .i64 (i : Nat)] w (FarPost w (r.ln i) (r.ns i)) := by
  have hns := Rl.ns_le h.nums hi
  refine refFar_walk i r.v r.north r.cols r.lofts r.wrong r.ea r.sa r.east.length r.ec r.svs.length r.sc (r.P i) (r.ln i) w (rIs r) rfl rfl rfl rfl rfl rfl (by show 1 ≤ r.ns i ∧ r.ns i ≤ 100; omega) (fun j hj => h.len hi hj) (fun W hW => rRefWay (h.keep hW) hi) (fun j hj W hW => rLen0 (h.keep hW) hi hj)
theorem Rl.Ok.cok {r : Rl} {w : World} (h : r.Ok w) : COk r.north r.cols r.lofts r.wrong r.bx r.bY r.sl r.sh r.lw r.lg r.lh r.hours r.dark r.east r.svs r.n r.k r.h r.f := ⟨⟨h.hk, h.hr⟩, h.hk12, h.hfo⟩
theorem rRefCheck {r : Rl} {w : World} (h : r.Ok w) : Calls Try.prog 22 #[.agg r.v] w fun e w' => e = .returned (.int .i64 0) ∧ G w w' := by
  have hN := h.nums
  have hvb := vm_bounds (checkE_ok h.hk)
  have hl2 := (checkE_zero h.hk).2.1
  have hr := hN.rows
  have hn := hN.many
  refine (refCheck_any r.north r.cols r.lofts r.wrong r.bx r.bY r.sl r.sh r.lw r.lg r.lh r.hours r.dark r.east r.svs r.n r.k r.h r.f r.ea r.sa r.ha r.fa r.ec r.sc r.hc r.fc w h.he h.hs (by omega) (by omega) h.hH (by omega) h.hF).mono fun e w' hh => ?_
  obtain ⟨z, rfl, hz, hG⟩ := hh
  rw [hz.2 h.cok]
  exact ⟨rfl, hG⟩
/-- some bool -/
def BoolPost (w : World) (e : Ending) (w' : World) : Prop := ∃ b : Bool, e = .returned (.bool b) ∧ G w w'
set_option maxRecDepth 100000 in
set_option maxHeartbeats 4000000 in
theorem farLaw_walk (REL : Array Value) (ha fa ea sa : Option Addr) (n hc k fc el ec sn sc : Nat) (sl : Int) (NS : Nat → Nat) (ln : Nat → Nat → Nat) (w : World) (hIs : IsRel REL) (h2 : REL[2]? = some (.slice ea el ec)) (h4 : REL[4]? = some (.slice sa sn sc)) (h8 : REL[8]? = some (.slice ha n hc)) (h9 : REL[9]? = some (.int .i64 sl)) (h11 : REL[11]? = some (.slice fa k fc))
    (hn : n ≤ 6) (hk : k ≤ 12) (hel : el ≤ 10) (hsn : sn ≤ 16) (hsl : 1 ≤ sl ∧ sl ≤ 3000000) (hNS : ∀ i, i < n → 1 ≤ NS i ∧ NS i ≤ 10) (hfb : ∀ i, i < n → ∀ q, q < NS i → farS (ln i) q ≤ 10000000000)
    (hCk : ∀ W, G w W → Calls Try.prog 22 #[.agg REL] W fun e w' => e = .returned (.int .i64 0) ∧ G W w') (hFar : ∀ i, i < n → ∀ W, G w W → Calls Try.prog 57 #[.agg REL, .int .i64 (i : Nat)] W (FarPost W (ln i) (NS i))) :
    Calls Try.prog 30 #[.agg REL] w (BoolPost w) := by
  have HIS := Lib.hid hIs
  have HCK := Lib.hid hCk
  have HFAR := Lib.hid hFar
  have HNS := Lib.hid hNS
  have HFB := Lib.hid hfb
  clear hIs hCk hFar hNS hfb
  have HPP : Hid (∀ w' b, G w w' → BoolPost w (.returned (.bool b)) w') := fun w' b a => ⟨b, rfl, a⟩
  generalize BoolPost w = PP at *
  have i1 : ¬ (20 : Int) < n := by omega
  have i2 : ¬ (30 : Int) < k := by omega
  have i3 : ¬ (40 : Int) < el := by omega
  have i4 : ¬ (60 : Int) < sn := by omega
  have g0 : G w (w.alloc (.cells REL 35)) := (G.rf _).a _
  have b0 : Blk (w.alloc (.cells REL 35)) w.heap.size 35 REL := Blk.new w 35 REL
  go_enter Try.func30, Try.ntmps30
  go_upto_region 1 with fail
  change Code.wp _ _ _ _ (w.alloc (.cells REL 35))
  generalize w.alloc (.cells REL 35) = w1 at *
  have m2 := (b0.cell 2).trans h2
  have m4 := (b0.cell 4).trans h4
  have m8 := (b0.cell 8).trans h8
  have m11 := (b0.cell 11).trans h11
  have lM := b0.lt
  go_upto_region 3 with fail
  refine wp_region_lit ?_
  refine wpList_load35 w.heap.size 1 HIS.out rfl rfl rfl b0 ?_
  try simp only [Act.put, List.getElem_toArray, List.getElem_cons_zero, List.getElem_cons_succ, List.setIfInBounds_toArray, List.set_cons_zero, List.set_cons_succ]
  go_wp2_with (go_at_call 22; refine (HCK.out _ g0).mono ?_; rintro e w2 ⟨rfl, hG2⟩)
  clear m2 m4 m8 m11 lM
  replace b0 := b0.keep hG2
  replace g0 := g0.t hG2
  clear hG2 HCK
  go_loopw [3, 4] (fun i u4 wr => ∃ q : Nat, q ≤ n ∧ i = .int .i64 q ∧ Blk wr w.heap.size 35 REL ∧ G w wr) (fun i _ _ => n - (intOf i).toNat)
  case atStart => exact ⟨0, Nat.zero_le _, rfl, b0, g0⟩
  case round =>
    clear b0 g0
    obtain ⟨q, hq, rfl, b0, g0⟩ := hrel
    obtain ⟨wo, rfl⟩ : ∃ wo, wo = wr := ⟨_, rfl⟩
    have m8 := (b0.cell 8).trans h8
    have lM := b0.lt
    by_cases hlt : q < n
    · have hki : (q : Int) < n := by omega
      have HFq := Lib.hid (HFAR.out q hlt wo g0)
      have hns := HNS.out q hlt
      have hfb := HFB.out q hlt
      clear HFAR HNS HFB
      generalize NS q = N at *
      generalize ln q = LN at *
      go_upto_region 8 with fail
      refine wp_region_lit ?_
      refine wpList_load35 w.heap.size 1 HIS.out rfl rfl rfl b0 ?_
      try simp only [Act.put, List.getElem_toArray, List.getElem_cons_zero, List.getElem_cons_succ, List.setIfInBounds_toArray, List.set_cons_zero, List.set_cons_succ]
      go_wp2_with (go_at_call 57; refine (HFq.out).mono ?_; rintro e w3 ⟨vF, rfl, hown, hG3⟩; obtain ⟨gF, capF, curF, eF, hbF, hgF, htF⟩ := own_some hown (by omega); subst eF; have hcF := take_cell hbF htF (k := N - 1) (by omega) (farV_get LN (show N - 1 < N by omega)); clear hown hbF htF)
      clear m8 lM HFq
      replace b0 := b0.keep hG3
      replace g0 := g0.t hG3
      have hfl := hfb (N - 1) (by omega)
      obtain ⟨M, hM⟩ : ∃ M, M = N - 1 := ⟨_, rfl⟩
      rw [← hM] at hcF hfl
      have xN : IntKind.i64.wrap ((N : Int) - 1) = (M : Int) := by rw [IntWalk.i64_in _ (by omega), hM]; omega
      have hMN : (M : Int) < N := by omega
      obtain ⟨fl, hfle⟩ : ∃ fl, fl = farS LN M := ⟨_, rfl⟩
      rw [← hfle] at hcF hfl
      obtain ⟨s, rfl⟩ : ∃ s : Nat, sl = s := ⟨sl.toNat, by omega⟩
      have c9 := (b0.cell 9).trans h9
      have lb := b0.lt
      have xq : IntKind.i64.wrap ((fl : Int) / s) = ((fl / s : Nat) : Int) := wrap_div2 _ _ (by omega)
      have hs0 : ((s : Int) == 0) = false := by simp; omega
      have hs1 : ¬ s = 0 := by omega
      clear hM hfle hfb
      have hSk : ∀ W', G w3 W' → (W'.cell? ⟨gF, M, none⟩ = some (.int .i64 (fl : Nat)) ∧ W'.cell? ⟨w.heap.size, 9, none⟩ = some (.int .i64 (s : Nat))) := fun W' h => ⟨((bcellB h).1 gF _ hgF).trans hcF, ((bcellB h).1 _ _ lb).trans c9⟩
      clear hcF c9
      obtain ⟨qt, hqt⟩ : ∃ qt, qt = fl / s := ⟨_, rfl⟩
      rw [← hqt] at xq
      clear hqt
      refine wp_region_Y (S := fun W' => (W'.cell? ⟨gF, M, none⟩ = some (.int .i64 (fl : Nat)) ∧ W'.cell? ⟨w.heap.size, 9, none⟩ = some (.int .i64 (s : Nat)))) 10 11 rfl (by kernel_rfl) (hSk _ (G.rf _).d) (fun hS => ?_)
      refine wpAnyY_take (i := 0) (v := ?_) rfl (by kernel_rfl) (by kernel_rfl) (by kernel_rfl) (by kernel_rfl) (fun _ _ _ h => h) (Or.inl ⟨by kernel_rfl, ?_⟩) hS ?_
      rotate_left
      · intro w' hSw; go_simp; with_reducible rfl
      try simp only [Act.put, List.getElem_toArray, List.getElem_cons_zero, List.getElem_cons_succ, List.setIfInBounds_toArray, List.set_cons_zero, List.set_cons_succ]
      refine wpAnyY_take (i := 1) (v := ?_) rfl (by kernel_rfl) (by kernel_rfl) (by kernel_rfl) (by kernel_rfl) (fun _ _ _ h => h) (Or.inl ⟨by kernel_rfl, ?_⟩) hS ?_
      rotate_left
      · intro w' hSw; go_simp; with_reducible rfl
      try simp only [Act.put, List.getElem_toArray, List.getElem_cons_zero, List.getElem_cons_succ, List.setIfInBounds_toArray, List.set_cons_zero, List.set_cons_succ]
      refine wpAnyY_take (i := 2) (v := ?_) rfl (by kernel_rfl) (by kernel_rfl) (by kernel_rfl) (by kernel_rfl) (fun _ _ _ h => h) (Or.inl ⟨by kernel_rfl, ?_⟩) hS ?_
      rotate_left
      · intro w' hSw; go_simp; with_reducible rfl
      try simp only [Act.put, List.getElem_toArray, List.getElem_cons_zero, List.getElem_cons_succ, List.setIfInBounds_toArray, List.set_cons_zero, List.set_cons_succ]
      refine wpAnyY_take (i := 3) (v := ?_) rfl (by kernel_rfl) (by kernel_rfl) (by kernel_rfl) (by kernel_rfl) (fun _ _ _ h => h) (Or.inl ⟨by kernel_rfl, ?_⟩) hS ?_
      rotate_left
      · intro w' hSw; go_simp; with_reducible rfl
      try simp only [Act.put, List.getElem_toArray, List.getElem_cons_zero, List.getElem_cons_succ, List.setIfInBounds_toArray, List.set_cons_zero, List.set_cons_succ]
      refine wpAnyY_take (i := 4) (v := ?_) rfl (by kernel_rfl) (by kernel_rfl) (by kernel_rfl) (by kernel_rfl) (fun _ _ _ h => h) (Or.inl ⟨by kernel_rfl, ?_⟩) hS ?_
      rotate_left
      · intro w' hSw; go_simp; with_reducible rfl
      try simp only [Act.put, List.getElem_toArray, List.getElem_cons_zero, List.getElem_cons_succ, List.setIfInBounds_toArray, List.set_cons_zero, List.set_cons_succ]
      refine wpAnyY_take (i := 5) (v := ?_) rfl (by kernel_rfl) (by kernel_rfl) (by kernel_rfl) (by kernel_rfl) (fun _ _ _ h => h) (Or.inl ⟨by kernel_rfl, ?_⟩) hS ?_
      rotate_left
      · intro w' hSw; have e := hSw.1; go_simp; with_reducible rfl
      try simp only [Act.put, List.getElem_toArray, List.getElem_cons_zero, List.getElem_cons_succ, List.setIfInBounds_toArray, List.set_cons_zero, List.set_cons_succ]
      refine wpAnyY_take (i := 6) (v := ?_) rfl (by kernel_rfl) (by kernel_rfl) (by kernel_rfl) (by kernel_rfl) (fun _ _ _ h => h) (Or.inl ⟨by kernel_rfl, ?_⟩) hS ?_
      rotate_left
      · intro w' hSw; go_simp; with_reducible rfl
      try simp only [Act.put, List.getElem_toArray, List.getElem_cons_zero, List.getElem_cons_succ, List.setIfInBounds_toArray, List.set_cons_zero, List.set_cons_succ]
      refine wpAnyY_take (i := 7) (v := ?_) rfl (by kernel_rfl) (by kernel_rfl) (by kernel_rfl) (by kernel_rfl) (fun _ _ _ h => h) (Or.inl ⟨by kernel_rfl, ?_⟩) hS ?_
      rotate_left
      · intro w' hSw; go_simp; with_reducible rfl
      try simp only [Act.put, List.getElem_toArray, List.getElem_cons_zero, List.getElem_cons_succ, List.setIfInBounds_toArray, List.set_cons_zero, List.set_cons_succ]
      refine wpAnyY_take (i := 8) (v := ?_) rfl (by kernel_rfl) (by kernel_rfl) (by kernel_rfl) (by kernel_rfl) (fun _ _ _ h => h) (Or.inl ⟨by kernel_rfl, ?_⟩) hS ?_
      rotate_left
      · intro w' hSw; have e := hSw.2; go_simp; with_reducible rfl
      try simp only [Act.put, List.getElem_toArray, List.getElem_cons_zero, List.getElem_cons_succ, List.setIfInBounds_toArray, List.set_cons_zero, List.set_cons_succ]
      refine wpAnyY_take (i := 9) (v := ?_) rfl (by kernel_rfl) (by kernel_rfl) (by kernel_rfl) (by kernel_rfl) (fun _ _ _ h => h) (Or.inl ⟨by kernel_rfl, ?_⟩) hS ?_
      rotate_left
      · intro w' hSw; go_simp; with_reducible rfl
      try simp only [Act.put, List.getElem_toArray, List.getElem_cons_zero, List.getElem_cons_succ, List.setIfInBounds_toArray, List.set_cons_zero, List.set_cons_succ]
      have ga := (G.rf w3).d
      refine wpAnyY_oneW (i := 10) (by kernel_rfl) rfl (by kernel_rfl) (by kernel_rfl) (fun K10 hK10 => ?_)
      go_simp
      refine hK10.out _ _ ?_
      try simp only [Act.put, List.getElem_toArray, List.getElem_cons_zero, List.getElem_cons_succ, List.setIfInBounds_toArray, List.set_cons_zero, List.set_cons_succ]
      refine wpAnyY_done (by kernel_rfl) ?_ _
      have gz := g0.t ga
      have bz := b0.keep ga
      clear hS hSk K10 hK10
      by_cases h300 : (300 : Int) ≤ qt
      · have HF := Lib.hid (HPP.out _ true gz)
        go_wp2_with fail
        exact HF.out
      · go_wp2_with fail
        go_roundw
        case rel => exact ⟨q + 1, by omega, by go_num, bz, gz⟩
        case measure => simp [intOf]; omega
    · obtain rfl : q = n := by omega
      have hki : ¬ ((q : Nat) : Int) < q := by omega
      have HF := Lib.hid (HPP.out wo false g0)
      go_wp2_with fail
      exact HF.out
end Go.Proofs.Ytcekdljjmfkacaa
