import Derived.Test.YtcekdljjmfkacaaGreatOt
import Derived.Test.YtcekdljjmfkacaaGreatXe
import Derived.Deep.Cut
set_option linter.unusedSimpArgs false
set_option linter.unusedVariables false
namespace Go.Proofs.YtcekdljjmfkacaaGreat
open Go.RowKit Go.Shelf
attribute [local go_sem] Oper.semAt_some wide_fn wide_dep wideR_fn wideR_dep
theorem rRefWay {r : Rl} {w : World} (h : r.Ok w) {i : Nat} (hi : i < r.n) : Calls Tryz.prog 42 #[.agg r.v, .int .i64 (i : Nat)] w (PbPost w (r.P i)) := by
  have hN := h.nums
  have hb := hN.base
  have hh := hN.homes i hi
  have hc := hN.cols
  have hr := hN.rows
  rcases h.hH with hz | ⟨gH, oH, e, hgH, hcell⟩
  · omega
  have p0 := hcell i hi 0 (by omega)
  have p1 := hcell i hi 1 (by omega)
  rw [Nat.add_zero] at p0
  exact refWay_walk r.bx r.bY (r.hx i) (r.hy i) i r.n r.hc gH oH r.v w (rIs r) rfl rfl (by show some (Value.slice r.ha r.n r.hc) = _; rw [e]) hi hgH p0 p1 (by omega) (by omega) (by omega) (by omega)
def Rl.ln (r : Rl) (i : Nat) (j : Nat) : Nat := lenS r.north r.east (r.P i) j
theorem rLen0 {r : Rl} {w : World} (h : r.Ok w) {i j : Nat} (hi : i < r.n) (hj : j + 1 < r.ns i) : Calls Tryz.prog 62 #[.agg #[.int .i64 r.north, .int .i64 (r.cols : Nat), .slice r.ea r.east.length r.ec, .int .i64 (r.lofts : Nat), .slice r.sa r.svs.length r.sc, .int .i64 r.wrong], .agg #[.int .i64 (((r.P i).getD j (0, 0)).1 : Nat), .int .i64 (((r.P i).getD j (0, 0)).2 : Nat)], .agg #[.int .i64 (((r.P i).getD (j + 1) (0, 0)).1 : Nat), .int .i64 (((r.P i).getD (j + 1) (0, 0)).2 : Nat)], .int .i64 0] w fun e w' => e = .returned (.tuple #[.int .i64 (r.ln i j : Nat), .int .i64 0]) ∧ G w w' := by
  have hN := h.nums
  have hvb := vm_bounds (checkE_ok h.hk)
  have hl2 := (checkE_zero h.hk).2.1
  have h1 := Rl.P_in hN hi (show j < r.ns i by omega)
  have h2 := Rl.P_in hN hi hj
  have hr := hN.rows
  refine (rLength_any r.north r.cols r.lofts r.wrong ((r.P i).getD j (0, 0)).1 ((r.P i).getD j (0, 0)).2 ((r.P i).getD (j + 1) (0, 0)).1 ((r.P i).getD (j + 1) (0, 0)).2 0 r.east r.svs r.ea r.sa r.ec r.sc w h.he h.hs (by omega) (by omega)).mono fun e w' hh => ?_
  obtain ⟨e1, hG⟩ := hh
  refine ⟨?_, hG⟩
  rw [e1]
  unfold lenV
  rw [if_pos h.hk, plB h1.1 h1.2, plB h2.1 h2.2]
  have hmin : min (j + 1) ((r.P i).length - 1) = j + 1 := by have : j + 1 < (r.P i).length := hj; omega
  unfold Rl.ln lenS
  rw [hmin]
  rfl
theorem rRefFar {r : Rl} {w : World} (h : r.Ok w) {i : Nat} (hi : i < r.n) : Calls Tryz.prog 27 #[.agg r.v, .int .i64 (i : Nat)] w (FarPost w (r.ln i) (r.ns i)) := by
  have hns := Rl.ns_le h.nums hi
  refine refFar_walk i r.v r.north r.cols r.lofts r.wrong r.ea r.sa r.east.length r.ec r.svs.length r.sc (r.P i) (r.ln i) w (rIs r) rfl rfl rfl rfl rfl rfl (by show 1 ≤ r.ns i ∧ r.ns i ≤ 100; omega) (fun j hj => h.len hi hj) (fun W hW => rRefWay (h.keep hW) hi) (fun j hj W hW => rLen0 (h.keep hW) hi hj)
theorem Rl.Ok.cok {r : Rl} {w : World} (h : r.Ok w) : COk r.north r.cols r.lofts r.wrong r.bx r.bY r.sl r.sh r.lw r.lg r.lh r.hours r.dark r.east r.svs r.n r.k r.h r.f := ⟨⟨h.hk, h.hr⟩, h.hk12, h.hfo⟩
theorem rRefCheck {r : Rl} {w : World} (h : r.Ok w) : Calls Tryz.prog 10 #[.agg r.v] w fun e w' => e = .returned (.int .i64 0) ∧ G w w' := by
  have hN := h.nums
  have hvb := vm_bounds (checkE_ok h.hk)
  have hl2 := (checkE_zero h.hk).2.1
  have hr := hN.rows
  have hn := hN.many
  refine (refCheck_any r.north r.cols r.lofts r.wrong r.bx r.bY r.sl r.sh r.lw r.lg r.lh r.hours r.dark r.east r.svs r.n r.k r.h r.f r.ea r.sa r.ha r.fa r.ec r.sc r.hc r.fc w h.he h.hs (by omega) (by omega) h.hH (by omega) h.hF).mono fun e w' hh => ?_
  obtain ⟨z, rfl, hz, hG⟩ := hh
  rw [hz.2 h.cok]
  exact ⟨rfl, hG⟩
/-- some bool -/
def BoolPost (w : World) (e : Ending) (w' : World) : Prop := ∃ b : Bool, e = .returned (.bool b) ∧ G w w'
set_option maxRecDepth 100000 in
set_option maxHeartbeats 4000000 in
theorem farLaw_walk (REL : Array Value) (ha fa ea sa : Option Addr) (n hc k fc el ec sn sc : Nat) (sl : Int) (NS : Nat → Nat) (ln : Nat → Nat → Nat) (w : World) (hIs : IsRel REL) (h2 : REL[2]? = some (.slice ea el ec)) (h4 : REL[4]? = some (.slice sa sn sc)) (h8 : REL[8]? = some (.slice ha n hc)) (h9 : REL[9]? = some (.int .i64 sl)) (h11 : REL[11]? = some (.slice fa k fc))
    (hn : n ≤ 6) (hk : k ≤ 12) (hel : el ≤ 10) (hsn : sn ≤ 16) (hsl : 1 ≤ sl ∧ sl ≤ 3000000) (hNS : ∀ i, i < n → 1 ≤ NS i ∧ NS i ≤ 10) (hfb : ∀ i, i < n → ∀ q, q < NS i → farS (ln i) q ≤ 10000000000)
    (hCk : ∀ W, G w W → Calls Tryz.prog 10 #[.agg REL] W fun e w' => e = .returned (.int .i64 0) ∧ G W w') (hFar : ∀ i, i < n → ∀ W, G w W → Calls Tryz.prog 27 #[.agg REL, .int .i64 (i : Nat)] W (FarPost W (ln i) (NS i))) :
    Calls Tryz.prog 6 #[.agg REL] w (BoolPost w) := by
  have HIS := Lib.hid hIs
  have HCK := Lib.hid hCk
  have HFAR := Lib.hid hFar
  have HNS := Lib.hid hNS
  have HFB := Lib.hid hfb
  clear hIs hCk hFar hNS hfb
  have HPP : Hid (∀ w' b, G w w' → BoolPost w (.returned (.bool b)) w') := fun w' b a => ⟨b, rfl, a⟩
  generalize BoolPost w = PP at *
  have i1 : ¬ (20 : Int) < n := by omega
  have i2 : ¬ (30 : Int) < k := by omega
  have i3 : ¬ (40 : Int) < el := by omega
  have i4 : ¬ (60 : Int) < sn := by omega
  have g0 : G w (w.alloc (.cells REL 35)) := (G.rf _).a _
  have b0 : Blk (w.alloc (.cells REL 35)) w.heap.size 35 REL := Blk.new w 35 REL
  go_enter Tryz.func6, Tryz.ntmps6
  go_upto_region 1 with fail
  change Code.wp _ _ _ _ (w.alloc (.cells REL 35))
  generalize w.alloc (.cells REL 35) = w1 at *
  have m2 := (b0.cell 2).trans h2
  have m4 := (b0.cell 4).trans h4
  have m8 := (b0.cell 8).trans h8
  have m11 := (b0.cell 11).trans h11
  have lM := b0.lt
  go_upto_region 3 with fail
  refine wp_region_lit ?_
  refine wpList_load35 w.heap.size 1 HIS.out rfl rfl rfl b0 ?_
  try simp only [Act.put, List.getElem_toArray, List.getElem_cons_zero, List.getElem_cons_succ, List.setIfInBounds_toArray, List.set_cons_zero, List.set_cons_succ]
  go_wp2_with (go_at_call 10; refine (HCK.out _ g0).mono ?_; rintro e w2 ⟨rfl, hG2⟩)
  clear m2 m4 m8 m11 lM
  replace b0 := b0.keep hG2
  replace g0 := g0.t hG2
  clear hG2 HCK
  go_loopw [3, 4] (fun i u4 wr => ∃ q : Nat, q ≤ n ∧ i = .int .i64 q ∧ Blk wr w.heap.size 35 REL ∧ G w wr) (fun i _ _ => n - (intOf i).toNat)
  case atStart => exact ⟨0, Nat.zero_le _, rfl, b0, g0⟩
  case round =>
    clear b0 g0
    obtain ⟨q, hq, rfl, b0, g0⟩ := hrel
    obtain ⟨wo, rfl⟩ : ∃ wo, wo = wr := ⟨_, rfl⟩
    have m8 := (b0.cell 8).trans h8
    have lM := b0.lt
    by_cases hlt : q < n
    · have hki : (q : Int) < n := by omega
      have HFq := Lib.hid (HFAR.out q hlt wo g0)
      have hns := HNS.out q hlt
      have hfb := HFB.out q hlt
      clear HFAR HNS HFB
      generalize NS q = N at *
      generalize ln q = LN at *
      go_upto_region 8 with fail
      refine wp_region_lit ?_
      refine wpList_load35 w.heap.size 1 HIS.out rfl rfl rfl b0 ?_
      try simp only [Act.put, List.getElem_toArray, List.getElem_cons_zero, List.getElem_cons_succ, List.setIfInBounds_toArray, List.set_cons_zero, List.set_cons_succ]
      go_wp2_with (go_at_call 27; refine (HFq.out).mono ?_; rintro e w3 ⟨vF, rfl, hown, hG3⟩; obtain ⟨gF, capF, curF, eF, hbF, hgF, htF⟩ := own_some hown (by omega); subst eF; have hcF := take_cell hbF htF (k := N - 1) (by omega) (farV_get LN (show N - 1 < N by omega)); clear hown hbF htF)
      clear m8 lM HFq
      replace b0 := b0.keep hG3
      replace g0 := g0.t hG3
      have hfl := hfb (N - 1) (by omega)
      obtain ⟨M, hM⟩ : ∃ M, M = N - 1 := ⟨_, rfl⟩
      rw [← hM] at hcF hfl
      have xN : IntKind.i64.wrap ((N : Int) - 1) = (M : Int) := by rw [IntWalk.i64_in _ (by omega), hM]; omega
      have hMN : (M : Int) < N := by omega
      obtain ⟨fl, hfle⟩ : ∃ fl, fl = farS LN M := ⟨_, rfl⟩
      rw [← hfle] at hcF hfl
      obtain ⟨s, rfl⟩ : ∃ s : Nat, sl = s := ⟨sl.toNat, by omega⟩
      have c9 := (b0.cell 9).trans h9
      have lb := b0.lt
      have xq : IntKind.i64.wrap ((fl : Int) / s) = ((fl / s : Nat) : Int) := wrap_div2 _ _ (by omega)
      have hs0 : ((s : Int) == 0) = false := by simp; omega
      have hs1 : ¬ s = 0 := by omega
      clear hM hfle hfb
      have hSk : ∀ W', G w3 W' → (W'.cell? ⟨gF, M, none⟩ = some (.int .i64 (fl : Nat)) ∧ W'.cell? ⟨w.heap.size, 9, none⟩ = some (.int .i64 (s : Nat))) := fun W' h => ⟨((bcellB h).1 gF _ hgF).trans hcF, ((bcellB h).1 _ _ lb).trans c9⟩
      clear hcF c9
      obtain ⟨qt, hqt⟩ : ∃ qt, qt = fl / s := ⟨_, rfl⟩
      rw [← hqt] at xq
      clear hqt
      refine wp_region_Y (S := fun W' => (W'.cell? ⟨gF, M, none⟩ = some (.int .i64 (fl : Nat)) ∧ W'.cell? ⟨w.heap.size, 9, none⟩ = some (.int .i64 (s : Nat)))) 10 11 rfl (by kernel_rfl) (hSk _ (G.rf _).d) (fun hS => ?_)
      refine wpAnyY_take (i := 0) (v := ?_) rfl (by kernel_rfl) (by kernel_rfl) (by kernel_rfl) (by kernel_rfl) (fun _ _ _ h => h) (Or.inl ⟨by kernel_rfl, ?_⟩) hS ?_
      rotate_left
      · intro w' hSw; go_simp; with_reducible rfl
      try simp only [Act.put, List.getElem_toArray, List.getElem_cons_zero, List.getElem_cons_succ, List.setIfInBounds_toArray, List.set_cons_zero, List.set_cons_succ]
      refine wpAnyY_take (i := 1) (v := ?_) rfl (by kernel_rfl) (by kernel_rfl) (by kernel_rfl) (by kernel_rfl) (fun _ _ _ h => h) (Or.inl ⟨by kernel_rfl, ?_⟩) hS ?_
      rotate_left
      · intro w' hSw; go_simp; with_reducible rfl
      try simp only [Act.put, List.getElem_toArray, List.getElem_cons_zero, List.getElem_cons_succ, List.setIfInBounds_toArray, List.set_cons_zero, List.set_cons_succ]
      refine wpAnyY_take (i := 2) (v := ?_) rfl (by kernel_rfl) (by kernel_rfl) (by kernel_rfl) (by kernel_rfl) (fun _ _ _ h => h) (Or.inl ⟨by kernel_rfl, ?_⟩) hS ?_
      rotate_left
      · intro w' hSw; go_simp; with_reducible rfl
      try simp only [Act.put, List.getElem_toArray, List.getElem_cons_zero, List.getElem_cons_succ, List.setIfInBounds_toArray, List.set_cons_zero, List.set_cons_succ]
      refine wpAnyY_take (i := 3) (v := ?_) rfl (by kernel_rfl) (by kernel_rfl) (by kernel_rfl) (by kernel_rfl) (fun _ _ _ h => h) (Or.inl ⟨by kernel_rfl, ?_⟩) hS ?_
      rotate_left
      · intro w' hSw; go_simp; with_reducible rfl
      try simp only [Act.put, List.getElem_toArray, List.getElem_cons_zero, List.getElem_cons_succ, List.setIfInBounds_toArray, List.set_cons_zero, List.set_cons_succ]
      refine wpAnyY_take (i := 4) (v := ?_) rfl (by kernel_rfl) (by kernel_rfl) (by kernel_rfl) (by kernel_rfl) (fun _ _ _ h => h) (Or.inl ⟨by kernel_rfl, ?_⟩) hS ?_
      rotate_left
      · intro w' hSw; go_simp; with_reducible rfl
      try simp only [Act.put, List.getElem_toArray, List.getElem_cons_zero, List.getElem_cons_succ, List.setIfInBounds_toArray, List.set_cons_zero, List.set_cons_succ]
      refine wpAnyY_take (i := 5) (v := ?_) rfl (by kernel_rfl) (by kernel_rfl) (by kernel_rfl) (by kernel_rfl) (fun _ _ _ h => h) (Or.inl ⟨by kernel_rfl, ?_⟩) hS ?_
      rotate_left
      · intro w' hSw; have e := hSw.1; go_simp; with_reducible rfl
      try simp only [Act.put, List.getElem_toArray, List.getElem_cons_zero, List.getElem_cons_succ, List.setIfInBounds_toArray, List.set_cons_zero, List.set_cons_succ]
      refine wpAnyY_take (i := 6) (v := ?_) rfl (by kernel_rfl) (by kernel_rfl) (by kernel_rfl) (by kernel_rfl) (fun _ _ _ h => h) (Or.inl ⟨by kernel_rfl, ?_⟩) hS ?_
      rotate_left
      · intro w' hSw; go_simp; with_reducible rfl
      try simp only [Act.put, List.getElem_toArray, List.getElem_cons_zero, List.getElem_cons_succ, List.setIfInBounds_toArray, List.set_cons_zero, List.set_cons_succ]
      refine wpAnyY_take (i := 7) (v := ?_) rfl (by kernel_rfl) (by kernel_rfl) (by kernel_rfl) (by kernel_rfl) (fun _ _ _ h => h) (Or.inl ⟨by kernel_rfl, ?_⟩) hS ?_
      rotate_left
      · intro w' hSw; go_simp; with_reducible rfl
      try simp only [Act.put, List.getElem_toArray, List.getElem_cons_zero, List.getElem_cons_succ, List.setIfInBounds_toArray, List.set_cons_zero, List.set_cons_succ]
      refine wpAnyY_take (i := 8) (v := ?_) rfl (by kernel_rfl) (by kernel_rfl) (by kernel_rfl) (by kernel_rfl) (fun _ _ _ h => h) (Or.inl ⟨by kernel_rfl, ?_⟩) hS ?_
      rotate_left
      · intro w' hSw; have e := hSw.2; go_simp; with_reducible rfl
      try simp only [Act.put, List.getElem_toArray, List.getElem_cons_zero, List.getElem_cons_succ, List.setIfInBounds_toArray, List.set_cons_zero, List.set_cons_succ]
      refine wpAnyY_take (i := 9) (v := ?_) rfl (by kernel_rfl) (by kernel_rfl) (by kernel_rfl) (by kernel_rfl) (fun _ _ _ h => h) (Or.inl ⟨by kernel_rfl, ?_⟩) hS ?_
      rotate_left
      · intro w' hSw; go_simp; with_reducible rfl
      try simp only [Act.put, List.getElem_toArray, List.getElem_cons_zero, List.getElem_cons_succ, List.setIfInBounds_toArray, List.set_cons_zero, List.set_cons_succ]
      have ga := (G.rf w3).d
      refine wpAnyY_oneW (i := 10) (by kernel_rfl) rfl (by kernel_rfl) (by kernel_rfl) (fun K10 hK10 => ?_)
      go_simp
      refine hK10.out _ _ ?_
      try simp only [Act.put, List.getElem_toArray, List.getElem_cons_zero, List.getElem_cons_succ, List.setIfInBounds_toArray, List.set_cons_zero, List.set_cons_succ]
      refine wpAnyY_done (by kernel_rfl) ?_ _
      have gz := g0.t ga
      have bz := b0.keep ga
      clear hS hSk K10 hK10
      by_cases h300 : (300 : Int) ≤ qt
      · have HF := Lib.hid (HPP.out _ true gz)
        go_wp2_with fail
        exact HF.out
      · go_wp2_with fail
        go_roundw
        case rel => exact ⟨q + 1, by omega, by go_num, bz, gz⟩
        case measure => simp [intOf]; omega
    · obtain rfl : q = n := by omega
      have hki : ¬ ((q : Nat) : Int) < q := by omega
      have HF := Lib.hid (HPP.out wo false g0)
      go_wp2_with fail
      exact HF.out
end Go.Proofs.YtcekdljjmfkacaaGreat
set_option linter.unusedSimpArgs false
set_option linter.unusedVariables false
namespace Go.Proofs.YtcekdljjmfkacaaGreat
open Go.RowKit Go.Shelf
attribute [local go_sem] Oper.semAt_some wide_fn wide_dep wideR_fn wideR_dep
section
variable (north cols lofts wrong bx bY sl sh lw lg lh hours dark : Int) (east : List Int) (svs : List Sv) (n k : Nat) (h f : Nat → Nat → Int) (ea sa ha fa : Option Addr) (ec sc hc fc : Nat) (w : World)
/-- where the parts of a release lie -/
structure Laid (w : World) : Prop where
  he : IntsAt w ea east
  hs : SvsAt w sa svs
  hl : east.length ≤ 9223372036854775807
  hl2 : svs.length ≤ 9223372036854775807
  hH : RowAt w ha n 2 h
  hn : n ≤ 9223372036854775807
  hF : RowAt w fa k 12 f
  hk : k ≤ 9223372036854775807
end
section
variable (north cols lofts wrong bx bY sl sh lw lg lh hours dark : Int) (east : List Int) (svs : List Sv) (n k : Nat) (h f : Nat → Nat → Int) (ea sa ha fa : Option Addr) (ec sc hc fc : Nat) (w : World)
theorem Laid.keep {east : List Int} {svs : List Sv} {n k : Nat} {h f : Nat → Nat → Int} {ea sa ha fa : Option Addr} {w w' : World} (L : Laid east svs n k h f ea sa ha fa w) (hG : G w w') : Laid east svs n k h f ea sa ha fa w' :=
  ⟨L.he.below hG, L.hs.below hG, L.hl, L.hl2, L.hH.below hG, L.hn, L.hF.below hG, L.hk⟩
/-- a valid release, as numbers from 0 on -/
theorem to_Rl (L : Laid east svs n k h f ea sa ha fa w) (hC : COk north cols lofts wrong bx bY sl sh lw lg lh hours dark east svs n k h f) : ∃ r : Rl, r.v = #[.int .i64 north, .int .i64 cols, .slice ea east.length ec, .int .i64 lofts, .slice sa svs.length sc, .int .i64 wrong, .int .i64 bx, .int .i64 bY, .slice ha n hc, .int .i64 sl, .int .i64 sh, .slice fa k fc, .int .i64 lw, .int .i64 lg, .int .i64 lh, .int .i64 hours, .int .i64 dark] ∧ r.Ok w ∧ r.n = n ∧ r.k = k ∧ r.east = east := by
  obtain ⟨⟨hk, hr⟩, hk12, hfo⟩ := hC
  have hvb := vm_bounds (checkE_ok hk)
  have hb := hr.base
  have hsp := hr.speed
  have hho := hr.homes
  have h8 := hr.hrs
  have h9 := hr.drk
  unfold spanB at hsp
  unfold isPlaceB isInB at hb
  unfold isInB at h8 h9
  simp only [Bool.and_eq_true, decide_eq_true_eq] at hsp hb h8 h9
  have hhx : ∀ i, i < n → 0 ≤ h i 0 ∧ 0 ≤ h i 1 := fun i hi => by
    have := hho i hi
    unfold isPlaceB isInB at this
    simp only [Bool.and_eq_true, decide_eq_true_eq] at this
    omega
  obtain ⟨c, rfl⟩ : ∃ c : Nat, cols = c := ⟨cols.toNat, by omega⟩
  obtain ⟨l, rfl⟩ : ∃ l : Nat, lofts = l := ⟨lofts.toNat, by omega⟩
  obtain ⟨x, rfl⟩ : ∃ x : Nat, bx = x := ⟨bx.toNat, by omega⟩
  obtain ⟨y, rfl⟩ : ∃ y : Nat, bY = y := ⟨bY.toNat, by omega⟩
  obtain ⟨a, rfl⟩ : ∃ a : Nat, sl = a := ⟨sl.toNat, by omega⟩
  obtain ⟨b, rfl⟩ : ∃ b : Nat, sh = b := ⟨sh.toNat, by omega⟩
  obtain ⟨d, rfl⟩ : ∃ d : Nat, hours = d := ⟨hours.toNat, by omega⟩
  obtain ⟨e, rfl⟩ : ∃ e : Nat, dark = e := ⟨dark.toNat, by omega⟩
  let r : Rl := { north := north, wrong := wrong, lw := lw, lg := lg, lh := lh, cols := c, lofts := l, bx := x, bY := y, sl := a, sh := b, hours := d, dark := e, east := east, svs := svs, n := n, k := k, hx := fun i => (h i 0).toNat, hy := fun i => (h i 1).toNat, f := f, ea := ea, sa := sa, ha := ha, fa := fa, ec := ec, sc := sc, hc := hc, fc := fc }
  have hh : ∀ i, i < n → ∀ j, j < 2 → h i j = r.h i j := fun i hi j hj => by
    have := hhx i hi
    match j, hj with
    | 0, _ => show h i 0 = (((h i 0).toNat : Nat) : Int); omega
    | 1, _ => show h i 1 = (((h i 1).toNat : Nat) : Int); omega
  refine ⟨r, rfl, ⟨L.he, L.hs, hk, ⟨hr.base, hr.many, fun i hi => ?_, hr.speed, hr.wind, hr.sight, hr.heat, hr.hrs, hr.drk⟩, ?_, L.hF, hk12, hfo⟩, rfl, rfl, rfl⟩
  · rw [← hh i hi 0 (by omega), ← hh i hi 1 (by omega)]
    exact hr.homes i hi
  · rcases L.hH with h1 | ⟨g, off, h1, h2, h3⟩
    · exact .inl h1
    · exact .inr ⟨g, off, h1, h2, fun i hi j hj => by rw [h3 i hi j hj, hh i hi j hj]⟩
set_option maxRecDepth 100000 in
set_option maxHeartbeats 4000000 in
theorem farBad (L : Laid east svs n k h f ea sa ha fa w) (hC : ¬ COk north cols lofts wrong bx bY sl sh lw lg lh hours dark east svs n k h f) : Calls Tryz.prog 6 #[.agg #[.int .i64 north, .int .i64 cols, .slice ea east.length ec, .int .i64 lofts, .slice sa svs.length sc, .int .i64 wrong, .int .i64 bx, .int .i64 bY, .slice ha n hc, .int .i64 sl, .int .i64 sh, .slice fa k fc, .int .i64 lw, .int .i64 lg, .int .i64 lh, .int .i64 hours, .int .i64 dark]] w (BoolPost w) := by
  have HCK := Lib.hid (fun (W : World) (hW : G w W) => refCheck_any north cols lofts wrong bx bY sl sh lw lg lh hours dark east svs n k h f ea sa ha fa ec sc hc fc W (L.keep hW).he (L.keep hW).hs L.hl L.hl2 (L.keep hW).hH L.hn (L.keep hW).hF)
  have HPP : Hid (∀ w' b, G w w' → BoolPost w (.returned (.bool b)) w') := fun w' b a => ⟨b, rfl, a⟩
  generalize BoolPost w = PP at *
  have g0 : G w (w.alloc (.cells #[.int .i64 north, .int .i64 cols, .slice ea east.length ec, .int .i64 lofts, .slice sa svs.length sc, .int .i64 wrong, .int .i64 bx, .int .i64 bY, .slice ha n hc, .int .i64 sl, .int .i64 sh, .slice fa k fc, .int .i64 lw, .int .i64 lg, .int .i64 lh, .int .i64 hours, .int .i64 dark] 35)) := (G.rf _).a _
  have b0 : Blk (w.alloc (.cells #[.int .i64 north, .int .i64 cols, .slice ea east.length ec, .int .i64 lofts, .slice sa svs.length sc, .int .i64 wrong, .int .i64 bx, .int .i64 bY, .slice ha n hc, .int .i64 sl, .int .i64 sh, .slice fa k fc, .int .i64 lw, .int .i64 lg, .int .i64 lh, .int .i64 hours, .int .i64 dark] 35)) w.heap.size 35 #[.int .i64 north, .int .i64 cols, .slice ea east.length ec, .int .i64 lofts, .slice sa svs.length sc, .int .i64 wrong, .int .i64 bx, .int .i64 bY, .slice ha n hc, .int .i64 sl, .int .i64 sh, .slice fa k fc, .int .i64 lw, .int .i64 lg, .int .i64 lh, .int .i64 hours, .int .i64 dark] := Blk.new w 35 #[.int .i64 north, .int .i64 cols, .slice ea east.length ec, .int .i64 lofts, .slice sa svs.length sc, .int .i64 wrong, .int .i64 bx, .int .i64 bY, .slice ha n hc, .int .i64 sl, .int .i64 sh, .slice fa k fc, .int .i64 lw, .int .i64 lg, .int .i64 lh, .int .i64 hours, .int .i64 dark]
  clear L
  go_enter Tryz.func6, Tryz.ntmps6
  go_upto_region 1 with fail
  change Code.wp _ _ _ _ (w.alloc (.cells #[.int .i64 north, .int .i64 cols, .slice ea east.length ec, .int .i64 lofts, .slice sa svs.length sc, .int .i64 wrong, .int .i64 bx, .int .i64 bY, .slice ha n hc, .int .i64 sl, .int .i64 sh, .slice fa k fc, .int .i64 lw, .int .i64 lg, .int .i64 lh, .int .i64 hours, .int .i64 dark] 35))
  generalize w.alloc (.cells #[.int .i64 north, .int .i64 cols, .slice ea east.length ec, .int .i64 lofts, .slice sa svs.length sc, .int .i64 wrong, .int .i64 bx, .int .i64 bY, .slice ha n hc, .int .i64 sl, .int .i64 sh, .slice fa k fc, .int .i64 lw, .int .i64 lg, .int .i64 lh, .int .i64 hours, .int .i64 dark] 35) = w1 at *
  have m2 := b0.cell 2
  have m4 := b0.cell 4
  have m8 := b0.cell 8
  have m11 := b0.cell 11
  have lM := b0.lt
  have HF := Lib.hid (HPP.out w1 true g0)
  by_cases i1 : (20 : Int) < n
  · go_wp2_with fail
    exact HF.out
  by_cases i2 : (30 : Int) < k
  · go_wp2_with fail
    exact HF.out
  by_cases i3 : (40 : Int) < east.length
  · go_wp2_with fail
    exact HF.out
  by_cases i4 : (60 : Int) < svs.length
  · go_wp2_with fail
    exact HF.out
  go_upto_region 3 with fail
  refine wp_region_lit ?_
  refine wpList_load35 w.heap.size 1 isRelV rfl rfl rfl b0 ?_
  try simp only [Act.put, List.getElem_toArray, List.getElem_cons_zero, List.getElem_cons_succ, List.setIfInBounds_toArray, List.set_cons_zero, List.set_cons_succ]
  refine wpList_plain rfl fun K hK => ?_
  go_simp
  refine (HCK.out _ g0).mono ?_
  rintro e w2 ⟨z, rfl, hz, hG2⟩
  refine hK _ _ ?_
  clear hK K HCK HF
  try simp only [Act.put, List.getElem_toArray, List.getElem_cons_zero, List.getElem_cons_succ, List.setIfInBounds_toArray, List.set_cons_zero, List.set_cons_succ]
  have hz0 : (z == 0) = false := by simp; exact fun h => hC (hz.1 h)
  have HF := Lib.hid (HPP.out w2 false (g0.t hG2))
  clear hz hC
  go_wp2_with fail
  exact HF.out
/-- what valid tells -/
def ValidPost (w : World) (p : Prop) (e : Ending) (w' : World) : Prop := ∃ b : Bool, e = .returned (.bool b) ∧ (b = true → p) ∧ G w w'
end
end Go.Proofs.YtcekdljjmfkacaaGreat
set_option linter.unusedSimpArgs false
set_option linter.unusedVariables false
namespace Go.Proofs.YtcekdljjmfkacaaGreat
open Go.RowKit Go.ChangeShapes Go.WideShapes Go.ChangeAt
set_option maxRecDepth 100000
theorem k60 : Tryz.prog.cellsOf 71 = 12 := by kernel_rfl
theorem k55 : Tryz.prog.cellsOf 49 = 6 := by kernel_rfl
theorem k33 : Tryz.prog.cellsOf 33 = 3 := by kernel_rfl
theorem k35 : Tryz.prog.cellsOf 35 = 17 := by kernel_rfl
theorem k28 : Tryz.prog.cellsOf 28 = 1 := by kernel_rfl
theorem k31 : Tryz.prog.cellsOf 31 = 1 := by kernel_rfl
section
variable {H : Type} {enc : TypeId × Value → H} {w : World} {fuel : Nat}
theorem sky_of {cs : List Value} {x : DataW H × List MemPlace} {fuel : Nat} (h : DataW.trod enc Tryz.prog w 0 (fun _ => true) true fuel 49 cs = some x) : ∃ a b c d e f, cs = [.int .i64 a, .int .i64 b, .int .i64 c, .int .i64 d, .int .i64 e, .int .i64 f] := by
  obtain ⟨xs, n, _, _, hl, hlen, hf⟩ := DataW.trod_struct Tryz.underlying49 h
  rw [k55] at hl
  match cs, hl, xs, hlen with
  | [c0, c1, c2, c3, c4, c5], _, [y0, y1, y2], _ =>
    have h0 := hf 0 _ rfl
    have h1 := hf 1 _ rfl
    have h2 := hf 2 _ rfl
    simp [k46] at h0 h1 h2
    obtain ⟨a0, a1, e0⟩ := span_of h0
    obtain ⟨a2, a3, e1⟩ := span_of h1
    obtain ⟨a4, a5, e2⟩ := span_of h2
    simp at e0 e1 e2
    exact ⟨a0, a1, a2, a3, a4, a5, by simp [e0, e1, e2]⟩
theorem lims_of {cs : List Value} {x : DataW H × List MemPlace} {fuel : Nat} (h : DataW.trod enc Tryz.prog w 0 (fun _ => true) true fuel 33 cs = some x) : ∃ a b c, cs = [.int .i64 a, .int .i64 b, .int .i64 c] := by
  obtain ⟨xs, n, _, _, hl, hlen, hf⟩ := DataW.trod_struct Tryz.underlying33 h
  rw [k33] at hl
  match cs, hl, xs, hlen with
  | [c0, c1, c2], _, [y0, y1, y2], _ =>
    have h0 := hf 0 _ rfl
    have h1 := hf 1 _ rfl
    have h2 := hf 2 _ rfl
    simp [k3] at h0 h1 h2
    obtain ⟨a0, e0, _, _⟩ := DataW.trod_int Tryz.underlying3 h0
    obtain ⟨a1, e1, _, _⟩ := DataW.trod_int Tryz.underlying3 h1
    obtain ⟨a2, e2, _, _⟩ := DataW.trod_int Tryz.underlying3 h2
    simp at e0 e1 e2
    exact ⟨a0, a1, a2, by simp [e0, e1, e2]⟩
theorem front_cells {cs : List Value} {x : DataW H × List MemPlace} {fuel : Nat} (h : DataW.trod enc Tryz.prog w 0 (fun _ => true) true fuel 71 cs = some x) : ∃ f : Nat → Int, ∀ r, r < 12 → cs[r]? = some (.int .i64 (f r)) := by
  obtain ⟨xs, n, _, _, hl, hlen, hf⟩ := DataW.trod_struct Tryz.underlying71 h
  rw [k60] at hl
  match cs, hl, xs, hlen with
  | [c0, c1, c2, c3, c4, c5, c6, c7, c8, c9, c10, c11], _, [y0, y1, y2, y3], _ =>
    have h0 := hf 0 _ rfl
    have h1 := hf 1 _ rfl
    have h2 := hf 2 _ rfl
    have h3 := hf 3 _ rfl
    simp [k46, k55] at h0 h1 h2 h3
    obtain ⟨a0, a1, e0⟩ := span_of h0
    obtain ⟨a2, a3, e1⟩ := span_of h1
    obtain ⟨a4, a5, e2⟩ := span_of h2
    obtain ⟨a6, a7, a8, a9, a10, a11, e3⟩ := sky_of h3
    simp at e0 e1 e2 e3
    refine ⟨fun r => ([a0, a1, a2, a3, a4, a5, a6, a7, a8, a9, a10, a11] : List Int).getD r 0, fun r hr => ?_⟩
    obtain ⟨rfl, rfl⟩ := e0
    obtain ⟨rfl, rfl⟩ := e1
    obtain ⟨rfl, rfl⟩ := e2
    obtain ⟨rfl, rfl, rfl, rfl, rfl, rfl⟩ := e3
    match r, hr with
    | 0, _ => rfl
    | 1, _ => rfl
    | 2, _ => rfl
    | 3, _ => rfl
    | 4, _ => rfl
    | 5, _ => rfl
    | 6, _ => rfl
    | 7, _ => rfl
    | 8, _ => rfl
    | 9, _ => rfl
    | 10, _ => rfl
    | 11, _ => rfl
theorem fronts_of {cs : List Value} {x : DataW H × List MemPlace} {fuel : Nat} (h : DataW.trod enc Tryz.prog w 0 (fun _ => true) true fuel 31 cs = some x) : ∃ (a : Option Addr) (cap n : Nat) (c : Nat → Nat → Int), cs = [.slice a n cap] ∧ RowAt w a n 12 c ∧ n ≤ maxLen ∧ n ≤ cap ∧ (a = none → cap = 0) :=
  rows_of Tryz.underlying31 k60 (by omega) front_cells h
theorem map_cells {cs : List Value} {x : DataW H × List MemPlace} {fuel : Nat} (h : DataW.trod enc Tryz.prog w 0 (fun _ => true) true fuel 25 cs = some x) : ∃ (north cols lofts wrong : Int) (ea sa : Option Addr) (ec sc : Nat) (east : List Int) (svs : List Sv), cs = [.int .i64 north, .int .i64 cols, .slice ea east.length ec, .int .i64 lofts, .slice sa svs.length sc, .int .i64 wrong] ∧
      IntsAt w ea east ∧ SvsAt w sa svs ∧ east.length ≤ maxLen ∧ svs.length ≤ maxLen := by
  obtain ⟨xs, n, _, _, hl, hlen, hf⟩ := DataW.trod_struct Tryz.underlying25 h
  rw [k25] at hl
  match cs, hl, xs, hlen with
  | [c0, c1, c2, c3, c4, c5], _, [y0, y1, y2, y3, y4, y5], _ =>
    have h0 := hf 0 _ rfl
    have h1 := hf 1 _ rfl
    have h2 := hf 2 _ rfl
    have h3 := hf 3 _ rfl
    have h4 := hf 4 _ rfl
    have h5 := hf 5 _ rfl
    simp [k3, k22, k23] at h0 h1 h2 h3 h4 h5
    obtain ⟨a0, e0, _, _⟩ := DataW.trod_int Tryz.underlying3 h0
    obtain ⟨a1, e1, _, _⟩ := DataW.trod_int Tryz.underlying3 h1
    obtain ⟨ea, ec, east, e2, g2, m2⟩ := ints_of h2
    obtain ⟨a3, e3, _, _⟩ := DataW.trod_int Tryz.underlying3 h3
    obtain ⟨sa, sc, svs, e4, g4, m4⟩ := surveys_of h4
    obtain ⟨a5, e5, _, _⟩ := DataW.trod_int Tryz.underlying3 h5
    simp at e0 e1 e2 e3 e4 e5
    subst e0 e1 e2 e3 e4 e5
    exact ⟨a0, a1, a3, a5, ea, sa, ec, sc, east, svs, rfl, g2, g4, m2, m4⟩
/-- a release that was handed in -/
theorem rel_of {v : Value} {d : DataW H} {p : List MemPlace} {r : Reach} {b0 : Nat} (hv : Value.okWide Tryz.prog w r b0 35 v) (h : DataW.Trod enc Tryz.prog w 0 (fun _ => true) true 35 v d p) :
    ∃ (north cols lofts wrong bx bY sl sh lw lg lh hours dark : Int) (east : List Int) (svs : List Sv) (n k : Nat) (hh f : Nat → Nat → Int) (ea sa ha fa : Option Addr) (ec sc hc fc : Nat), v = .agg #[.int .i64 north, .int .i64 cols, .slice ea east.length ec, .int .i64 lofts, .slice sa svs.length sc, .int .i64 wrong, .int .i64 bx, .int .i64 bY, .slice ha n hc, .int .i64 sl, .int .i64 sh, .slice fa k fc, .int .i64 lw, .int .i64 lg, .int .i64 lh, .int .i64 hours, .int .i64 dark] ∧ Laid east svs n k hh f ea sa ha fa w := by
  obtain ⟨cs, rfl, hsz⟩ := okWide_struct Tryz.underlying35 hv
  rw [k35] at hsz
  obtain ⟨l⟩ := cs
  obtain ⟨fuel, hf0⟩ := h
  obtain ⟨xs, n, _, _, hl, hlen, hf⟩ := DataW.trod_struct Tryz.underlying35 hf0
  match l, hsz, xs, hlen with
  | [c0, c1, c2, c3, c4, c5, c6, c7, c8, c9, c10, c11, c12, c13, c14, c15, c16], _, [y0, y1, y2, y3, y4, y5, y6, y7], _ =>
    have h0 := hf 0 _ rfl
    have h1 := hf 1 _ rfl
    have h2 := hf 2 _ rfl
    have h3 := hf 3 _ rfl
    have h4 := hf 4 _ rfl
    have h5 := hf 5 _ rfl
    have h6 := hf 6 _ rfl
    have h7 := hf 7 _ rfl
    simp [k3, k25, k27, k28, k31, k33, k46, Value.cells] at h0 h1 h2 h3 h4 h5 h6 h7
    obtain ⟨north, cols, lofts, wrong, ea, sa, ec, sc, east, svs, e0, g1, g2, m1, m2⟩ := map_cells h0
    obtain ⟨bx, bY, e1⟩ := point_of h1
    obtain ⟨ha, hc, n', hh, e2, gH, mH, _, _⟩ := points_of6 h2
    obtain ⟨sl, sh, e3⟩ := span_of h3
    obtain ⟨fa, fc, k', f, e4, gF, mF, _, _⟩ := fronts_of h4
    obtain ⟨lw, lg, lh, e5⟩ := lims_of h5
    obtain ⟨hours, e6, _, _⟩ := DataW.trod_int Tryz.underlying3 h6
    obtain ⟨dark, e7, _, _⟩ := DataW.trod_int Tryz.underlying3 h7
    simp at e0 e1 e2 e3 e4 e5 e6 e7
    obtain ⟨rfl, rfl, rfl, rfl, rfl, rfl⟩ := e0
    obtain ⟨rfl, rfl⟩ := e1
    subst e2
    obtain ⟨rfl, rfl⟩ := e3
    subst e4
    obtain ⟨rfl, rfl, rfl⟩ := e5
    subst e6 e7
    exact ⟨north, cols, lofts, wrong, bx, bY, sl, sh, lw, lg, lh, hours, dark, east, svs, n', k', hh, f, ea, sa, ha, fa, ec, sc, hc, fc, rfl, ⟨g1, g2, Nat.le_trans m1 (by decide), Nat.le_trans m2 (by decide), gH, Nat.le_trans mH (by decide), gF, Nat.le_trans mF (by decide)⟩⟩
end
end Go.Proofs.YtcekdljjmfkacaaGreat
set_option linter.unusedSimpArgs false
set_option linter.unusedVariables false
namespace Go.Proofs.YtcekdljjmfkacaaGreat
open Go.RowKit Go.Shelf Go.WideShapes
section
variable {H : Type} {enc : TypeId × Value → H} {w : World}
theorem k27q : Tryz.prog.cellsOf 27 = 2 := by kernel_rfl
theorem k37 : Tryz.prog.cellsOf 37 = 6 := by kernel_rfl

set_option maxRecDepth 100000 in
theorem ask3_val {v : Value} {d : DataW H} {p : List MemPlace} {r : Reach} {b0 : Nat} (hv : Value.okWide Tryz.prog w r b0 37 v) (h : DataW.Trod enc Tryz.prog w 0 (fun _ => true) true 37 v d p) :
    ∃ a b c px py d : Int, v = .agg #[.int .i64 a, .int .i64 b, .int .i64 c, .int .i64 px, .int .i64 py, .int .i64 d] := by
  obtain ⟨cs, rfl, hsz⟩ := okWide_struct Tryz.underlying37 hv
  rw [k37] at hsz
  obtain ⟨l⟩ := cs
  obtain ⟨fuel, hf0⟩ := h
  obtain ⟨xs, n, _, _, hl, hlen, hf⟩ := DataW.trod_struct Tryz.underlying37 hf0
  match l, hsz, xs, hlen with
  | [c0, c1, c2, c3, c4, c5], _, [y0, y1, y2, y3, y4], _ =>
    have h0 := hf 0 _ rfl
    have h1 := hf 1 _ rfl
    have h2 := hf 2 _ rfl
    have h3 := hf 3 _ rfl
    have h4 := hf 4 _ rfl
    simp [k3, k27q, Value.cells] at h0 h1 h2 h3 h4
    obtain ⟨a0, e0, _, _⟩ := DataW.trod_int Tryz.underlying3 h0
    obtain ⟨a1, e1, _, _⟩ := DataW.trod_int Tryz.underlying3 h1
    obtain ⟨a2, e2, _, _⟩ := DataW.trod_int Tryz.underlying3 h2
    obtain ⟨a3, a4, e3⟩ := point_of h3
    obtain ⟨a5, e4, _, _⟩ := DataW.trod_int Tryz.underlying3 h4
    simp at e0 e1 e2 e3 e4
    exact ⟨a0, a1, a2, a3, a4, a5, by simp [e0, e1, e2, e3, e4]⟩
end
end Go.Proofs.YtcekdljjmfkacaaGreat
set_option linter.unusedSimpArgs false
set_option linter.unusedVariables false
namespace Go.Proofs.YtcekdljjmfkacaaGreat
open Go.RowKit Go.Shelf
attribute [local go_sem] Oper.semAt_some wide_fn wide_dep wideR_fn wideR_dep
/-- what Far answers, and what it then says of the numbers -/
def FarRet (w : World) (n k el sn : Nat) (e : Ending) (w' : World) : Prop := ∃ b : Bool, e = .returned (.bool b) ∧ (b = false → n ≤ 20 ∧ k ≤ 30 ∧ el ≤ 40 ∧ sn ≤ 60) ∧ G w w'
section
variable (north cols lofts wrong bx bY sl sh lw lg lh hours dark : Int) (east : List Int) (svs : List Sv) (n k : Nat) (h f : Nat → Nat → Int) (ea sa ha fa : Option Addr) (ec sc hc fc : Nat) (w : World)
set_option maxRecDepth 100000 in
set_option maxHeartbeats 4000000 in
theorem farBad2 (L : Laid east svs n k h f ea sa ha fa w) (hC : ¬ COk north cols lofts wrong bx bY sl sh lw lg lh hours dark east svs n k h f) : Calls Tryz.prog 6 #[.agg #[.int .i64 north, .int .i64 cols, .slice ea east.length ec, .int .i64 lofts, .slice sa svs.length sc, .int .i64 wrong, .int .i64 bx, .int .i64 bY, .slice ha n hc, .int .i64 sl, .int .i64 sh, .slice fa k fc, .int .i64 lw, .int .i64 lg, .int .i64 lh, .int .i64 hours, .int .i64 dark]] w (FarRet w n k east.length svs.length) := by
  have HCK := Lib.hid (fun (W : World) (hW : G w W) => refCheck_any north cols lofts wrong bx bY sl sh lw lg lh hours dark east svs n k h f ea sa ha fa ec sc hc fc W (L.keep hW).he (L.keep hW).hs L.hl L.hl2 (L.keep hW).hH L.hn (L.keep hW).hF)
  have HPP : Hid (∀ w', G w w' → FarRet w n k east.length svs.length (.returned (.bool true)) w') := fun w' a => ⟨true, rfl, fun h => (by cases h), a⟩
  have HPN : Hid (∀ w', G w w' → (n ≤ 20 ∧ k ≤ 30 ∧ east.length ≤ 40 ∧ svs.length ≤ 60) → FarRet w n k east.length svs.length (.returned (.bool false)) w') := fun w' a c => ⟨false, rfl, fun _ => c, a⟩
  generalize FarRet w n k east.length svs.length = PP at *
  have g0 : G w (w.alloc (.cells #[.int .i64 north, .int .i64 cols, .slice ea east.length ec, .int .i64 lofts, .slice sa svs.length sc, .int .i64 wrong, .int .i64 bx, .int .i64 bY, .slice ha n hc, .int .i64 sl, .int .i64 sh, .slice fa k fc, .int .i64 lw, .int .i64 lg, .int .i64 lh, .int .i64 hours, .int .i64 dark] 35)) := (G.rf _).a _
  have b0 : Blk (w.alloc (.cells #[.int .i64 north, .int .i64 cols, .slice ea east.length ec, .int .i64 lofts, .slice sa svs.length sc, .int .i64 wrong, .int .i64 bx, .int .i64 bY, .slice ha n hc, .int .i64 sl, .int .i64 sh, .slice fa k fc, .int .i64 lw, .int .i64 lg, .int .i64 lh, .int .i64 hours, .int .i64 dark] 35)) w.heap.size 35 #[.int .i64 north, .int .i64 cols, .slice ea east.length ec, .int .i64 lofts, .slice sa svs.length sc, .int .i64 wrong, .int .i64 bx, .int .i64 bY, .slice ha n hc, .int .i64 sl, .int .i64 sh, .slice fa k fc, .int .i64 lw, .int .i64 lg, .int .i64 lh, .int .i64 hours, .int .i64 dark] := Blk.new w 35 #[.int .i64 north, .int .i64 cols, .slice ea east.length ec, .int .i64 lofts, .slice sa svs.length sc, .int .i64 wrong, .int .i64 bx, .int .i64 bY, .slice ha n hc, .int .i64 sl, .int .i64 sh, .slice fa k fc, .int .i64 lw, .int .i64 lg, .int .i64 lh, .int .i64 hours, .int .i64 dark]
  clear L
  go_enter Tryz.func6, Tryz.ntmps6
  go_upto_region 1 with fail
  change Code.wp _ _ _ _ (w.alloc (.cells #[.int .i64 north, .int .i64 cols, .slice ea east.length ec, .int .i64 lofts, .slice sa svs.length sc, .int .i64 wrong, .int .i64 bx, .int .i64 bY, .slice ha n hc, .int .i64 sl, .int .i64 sh, .slice fa k fc, .int .i64 lw, .int .i64 lg, .int .i64 lh, .int .i64 hours, .int .i64 dark] 35))
  generalize w.alloc (.cells #[.int .i64 north, .int .i64 cols, .slice ea east.length ec, .int .i64 lofts, .slice sa svs.length sc, .int .i64 wrong, .int .i64 bx, .int .i64 bY, .slice ha n hc, .int .i64 sl, .int .i64 sh, .slice fa k fc, .int .i64 lw, .int .i64 lg, .int .i64 lh, .int .i64 hours, .int .i64 dark] 35) = w1 at *
  have m2 := b0.cell 2
  have m4 := b0.cell 4
  have m8 := b0.cell 8
  have m11 := b0.cell 11
  have lM := b0.lt
  have HF := Lib.hid (HPP.out w1 g0)
  by_cases i1 : (20 : Int) < n
  · go_wp2_with fail
    exact HF.out
  by_cases i2 : (30 : Int) < k
  · go_wp2_with fail
    exact HF.out
  by_cases i3 : (40 : Int) < east.length
  · go_wp2_with fail
    exact HF.out
  by_cases i4 : (60 : Int) < svs.length
  · go_wp2_with fail
    exact HF.out
  go_upto_region 3 with fail
  refine wp_region_lit ?_
  refine wpList_load35 w.heap.size 1 isRelV rfl rfl rfl b0 ?_
  try simp only [Act.put, List.getElem_toArray, List.getElem_cons_zero, List.getElem_cons_succ, List.setIfInBounds_toArray, List.set_cons_zero, List.set_cons_succ]
  refine wpList_plain rfl fun K hK => ?_
  go_simp
  refine (HCK.out _ g0).mono ?_
  rintro e w2 ⟨z, rfl, hz, hG2⟩
  refine hK _ _ ?_
  clear hK K HCK HF
  try simp only [Act.put, List.getElem_toArray, List.getElem_cons_zero, List.getElem_cons_succ, List.setIfInBounds_toArray, List.set_cons_zero, List.set_cons_succ]
  have hz0 : (z == 0) = false := by simp; exact fun h => hC (hz.1 h)
  have HF := Lib.hid (HPN.out w2 (g0.t hG2) ⟨by omega, by omega, by omega, by omega⟩)
  clear hz hC
  go_wp2_with fail
  exact HF.out

theorem far_all (L : Laid east svs n k h f ea sa ha fa w) : Calls Tryz.prog 6 #[.agg #[.int .i64 north, .int .i64 cols, .slice ea east.length ec, .int .i64 lofts, .slice sa svs.length sc, .int .i64 wrong, .int .i64 bx, .int .i64 bY, .slice ha n hc, .int .i64 sl, .int .i64 sh, .slice fa k fc, .int .i64 lw, .int .i64 lg, .int .i64 lh, .int .i64 hours, .int .i64 dark]] w (FarRet w n k east.length svs.length) := by
  by_cases hC : COk north cols lofts wrong bx bY sl sh lw lg lh hours dark east svs n k h f
  · obtain ⟨r, hv, hok, hrn, hrk, hre⟩ := to_Rl north cols lofts wrong bx bY sl sh lw lg lh hours dark east svs n k h f ea sa ha fa ec sc hc fc w L hC
    rw [← hv]
    have hN := hok.nums
    have hl2 := (checkE_zero hok.hk).2.1
    refine (farLaw_walk r.v r.ha r.fa r.ea r.sa r.n r.hc r.k r.fc r.east.length r.ec r.svs.length r.sc r.sl r.ns r.ln w (rIs r) rfl rfl rfl rfl rfl hN.many hok.hk12 hN.rows hl2 (by have := hN.speed; omega) (fun i hi => Rl.ns_le hN hi) (fun i hi q hq => by
        have h1 := hok.far hi q (by omega)
        have h2 := Rl.ns_le hN hi
        have h3 : farS (r.ln i) q = farL r.north r.east (r.P i) q := rfl
        omega) (fun W' hW' => rRefCheck (hok.keep hW')) (fun i hi W' hW' => rRefFar (hok.keep hW') hi)).mono fun e w' hp => ?_
    obtain ⟨b, hb, hg⟩ := hp
    have hsv : (checkE_zero hC.1.1).2.1 = (checkE_zero hC.1.1).2.1 := rfl
    have hs2 := (checkE_zero hC.1.1).2.1
    have hm := hN.many
    have h12 := hok.hk12
    have hrw := hN.rows
    rw [hre] at hrw
    exact ⟨b, hb, fun _ => ⟨by omega, by omega, by omega, by omega⟩, hg⟩
  · exact farBad2 north cols lofts wrong bx bY sl sh lw lg lh hours dark east svs n k h f ea sa ha fa ec sc hc fc w L hC
/-- the release of the arguments, where they are numbers from 0 on -/
def mkR : Rl := { north := north, wrong := wrong, lw := lw, lg := lg, lh := lh, cols := cols.toNat, lofts := lofts.toNat, bx := bx.toNat, bY := bY.toNat, sl := sl.toNat, sh := sh.toNat, hours := hours.toNat, dark := dark.toNat, east := east, svs := svs, n := n, k := k, hx := fun i => (h i 0).toNat, hy := fun i => (h i 1).toNat, f := f, ea := ea, sa := sa, ha := ha, fa := fa, ec := ec, sc := sc, hc := hc, fc := fc }
theorem mkR_ok (L : Laid east svs n k h f ea sa ha fa w) (hC : COk north cols lofts wrong bx bY sl sh lw lg lh hours dark east svs n k h f) : (mkR north cols lofts wrong bx bY sl sh lw lg lh hours dark east svs n k h f ea sa ha fa ec sc hc fc).v = #[.int .i64 north, .int .i64 cols, .slice ea east.length ec, .int .i64 lofts, .slice sa svs.length sc, .int .i64 wrong, .int .i64 bx, .int .i64 bY, .slice ha n hc, .int .i64 sl, .int .i64 sh, .slice fa k fc, .int .i64 lw, .int .i64 lg, .int .i64 lh, .int .i64 hours, .int .i64 dark] ∧ (mkR north cols lofts wrong bx bY sl sh lw lg lh hours dark east svs n k h f ea sa ha fa ec sc hc fc).Ok w := by
  obtain ⟨⟨hk, hr⟩, hk12, hfo⟩ := hC
  have hvb := vm_bounds (checkE_ok hk)
  have hb := hr.base
  have hsp := hr.speed
  have hho := hr.homes
  have h8 := hr.hrs
  have h9 := hr.drk
  unfold spanB at hsp
  unfold isPlaceB isInB at hb
  unfold isInB at h8 h9
  simp only [Bool.and_eq_true, decide_eq_true_eq] at hsp hb h8 h9
  have hhx : ∀ i, i < n → 0 ≤ h i 0 ∧ 0 ≤ h i 1 := fun i hi => by
    have := hho i hi
    unfold isPlaceB isInB at this
    simp only [Bool.and_eq_true, decide_eq_true_eq] at this
    omega
  obtain ⟨c, rfl⟩ : ∃ c : Nat, cols = c := ⟨cols.toNat, by omega⟩
  obtain ⟨l, rfl⟩ : ∃ l : Nat, lofts = l := ⟨lofts.toNat, by omega⟩
  obtain ⟨x, rfl⟩ : ∃ x : Nat, bx = x := ⟨bx.toNat, by omega⟩
  obtain ⟨y, rfl⟩ : ∃ y : Nat, bY = y := ⟨bY.toNat, by omega⟩
  obtain ⟨a, rfl⟩ : ∃ a : Nat, sl = a := ⟨sl.toNat, by omega⟩
  obtain ⟨b, rfl⟩ : ∃ b : Nat, sh = b := ⟨sh.toNat, by omega⟩
  obtain ⟨d, rfl⟩ : ∃ d : Nat, hours = d := ⟨hours.toNat, by omega⟩
  obtain ⟨e, rfl⟩ : ∃ e : Nat, dark = e := ⟨dark.toNat, by omega⟩
  have hh : ∀ i, i < n → ∀ j, j < 2 → h i j = (mkR north (c : Nat) (l : Nat) wrong (x : Nat) (y : Nat) (a : Nat) (b : Nat) lw lg lh (d : Nat) (e : Nat) east svs n k h f ea sa ha fa ec sc hc fc).h i j := fun i hi j hj => by
    have := hhx i hi
    match j, hj with
    | 0, _ => show h i 0 = (((h i 0).toNat : Nat) : Int); omega
    | 1, _ => show h i 1 = (((h i 1).toNat : Nat) : Int); omega
  refine ⟨rfl, ⟨L.he, L.hs, hk, ⟨hr.base, hr.many, fun i hi => ?_, hr.speed, hr.wind, hr.sight, hr.heat, hr.hrs, hr.drk⟩, ?_, L.hF, hk12, hfo⟩⟩
  · rw [← hh i hi 0 (by omega), ← hh i hi 1 (by omega)]
    exact hr.homes i hi
  · rcases L.hH with h1 | ⟨g, off, h1, h2, h3⟩
    · exact .inl h1
    · exact .inr ⟨g, off, h1, h2, fun i hi j hj => by rw [h3 i hi j hj, hh i hi j hj]⟩
end
end Go.Proofs.YtcekdljjmfkacaaGreat
