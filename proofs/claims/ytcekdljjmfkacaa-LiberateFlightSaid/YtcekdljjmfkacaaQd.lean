import Derived.Test.YtcekdljjmfkacaaQc
import Derived.Test.YtcekdljjmfkacaaOz
import Derived.Test.YtcekdljjmfkacaaQe
set_option linter.unusedSimpArgs false
set_option linter.unusedVariables false
namespace Go.Proofs.Ytcekdljjmfkacaa
open Go.RowKit Go.Shelf
attribute [local go_sem] Oper.semAt_some wide_fn wide_dep wideR_fn wideR_dep
/-- a flight that is asked of no way: outside the bounds -/
def OffB (sl sh A x : Int) : Prop := A < 0 ∨ 400 < A ∨ x < A * sl ∨ A * sh < x
set_option maxRecDepth 100000 in
set_option maxHeartbeats 8000000 in
theorem FlightOut_walk (REL : Array Value) (home minute A x sl sh : Int) (w : World) (hIs : IsRel REL) (h9 : REL[9]? = some (.int .i64 sl)) (h10 : REL[10]? = some (.int .i64 sh))
    (hV : ∀ W, G w W → Calls Try.prog 12 #[.agg REL, .int .i64 home, .int .i64 minute] W (ValidPost W ((0 ≤ sl ∧ sl ≤ 3000000 ∧ 0 ≤ sh ∧ sh ≤ 3000000) ∧ OffB sl sh A x))) :
    Calls Try.prog 4 #[.agg REL, .agg #[.int .i64 home, .int .i64 minute, .int .i64 A, .int .i64 x]] w fun e w' => e = .returned (.bool true) ∧ G w w' := by
  have HIS := Lib.hid hIs
  have HV := Lib.hid hV
  have HWK := Lib.hid (fun W : World => works_any W)
  clear hIs hV
  have g0 : G w ((w.alloc (.cells REL 35)).alloc (.cells #[.int .i64 home, .int .i64 minute, .int .i64 A, .int .i64 x] 43)) := ((G.rf _).a _).a _
  have b0 : Blk ((w.alloc (.cells REL 35)).alloc (.cells #[.int .i64 home, .int .i64 minute, .int .i64 A, .int .i64 x] 43)) w.heap.size 35 REL := (Blk.new w 35 REL).keep ((G.rf _).a _)
  have c0 : Blk ((w.alloc (.cells REL 35)).alloc (.cells #[.int .i64 home, .int .i64 minute, .int .i64 A, .int .i64 x] 43)) (w.heap.size + 1) 43 #[.int .i64 home, .int .i64 minute, .int .i64 A, .int .i64 x] := by
    have := Blk.new (w.alloc (.cells REL 35)) 43 #[.int .i64 home, .int .i64 minute, .int .i64 A, .int .i64 x]
    rwa [show (w.alloc (.cells REL 35)).heap.size = w.heap.size + 1 by simp] at this
  go_enter Try.func4, Try.ntmps4
  go_upto_region 1 with fail
  change Code.wp _ _ _ _ ((w.alloc (.cells REL 35)).alloc (.cells #[.int .i64 home, .int .i64 minute, .int .i64 A, .int .i64 x] 43))
  generalize (w.alloc (.cells REL 35)).alloc (.cells #[.int .i64 home, .int .i64 minute, .int .i64 A, .int .i64 x] 43) = w1 at *
  have x0 : w1.cell? ⟨w.heap.size + 1, 0, none⟩ = some (.int .i64 home) := c0.cell 0
  have x1 : w1.cell? ⟨w.heap.size + 1, 1, none⟩ = some (.int .i64 minute) := c0.cell 1
  have lx := c0.lt
  refine wp_region_lit ?_
  refine wpList_load35 w.heap.size 2 HIS.out rfl rfl rfl b0 ?_
  try simp only [Act.put, List.getElem_toArray, List.getElem_cons_zero, List.getElem_cons_succ, List.setIfInBounds_toArray, List.set_cons_zero, List.set_cons_succ]
  refine wpList_plain rfl fun K hK => ?_
  go_simp
  refine hK _ _ ?_
  clear hK
  try simp only [Act.put, List.getElem_toArray, List.getElem_cons_zero, List.getElem_cons_succ, List.setIfInBounds_toArray, List.set_cons_zero, List.set_cons_succ]
  refine wpList_plain rfl fun K hK => ?_
  go_simp
  refine hK _ _ ?_
  clear hK
  try simp only [Act.put, List.getElem_toArray, List.getElem_cons_zero, List.getElem_cons_succ, List.setIfInBounds_toArray, List.set_cons_zero, List.set_cons_succ]
  refine wpList_plain rfl fun K hK => ?_
  go_simp
  refine hK _ _ ?_
  clear hK
  try simp only [Act.put, List.getElem_toArray, List.getElem_cons_zero, List.getElem_cons_succ, List.setIfInBounds_toArray, List.set_cons_zero, List.set_cons_succ]
  refine wpList_plain rfl fun K hK => ?_
  go_simp
  refine hK _ _ ?_
  clear hK
  try simp only [Act.put, List.getElem_toArray, List.getElem_cons_zero, List.getElem_cons_succ, List.setIfInBounds_toArray, List.set_cons_zero, List.set_cons_succ]
  refine wpList_plain rfl fun K hK => ?_
  go_simp
  refine (HV.out _ g0).mono ?_
  rintro e w2 ⟨b, rfl, hb, hG2⟩
  refine hK _ _ ?_
  clear hK K HV x0 x1 lx
  try simp only [Act.put, List.getElem_toArray, List.getElem_cons_zero, List.getElem_cons_succ, List.setIfInBounds_toArray, List.set_cons_zero, List.set_cons_succ]
  replace b0 := b0.keep hG2
  replace c0 := c0.keep hG2
  replace g0 := g0.t hG2
  clear hG2
  have lx := c0.lt
  have lb := b0.lt
  cases b
  · clear hb
    go_wp2_with (go_at_call 13; refine (HWK.out _).mono ?_; rintro e w3 ⟨rfl, hG3⟩)
    go_ret
    exact ⟨rfl, g0.t hG3⟩
  obtain ⟨⟨a1, a2, a3, a4⟩, hoff⟩ := hb rfl
  unfold OffB at hoff
  clear hb
  have x2 : w2.cell? ⟨w.heap.size + 1, 2, none⟩ = some (.int .i64 A) := c0.cell 2
  have x3 : w2.cell? ⟨w.heap.size + 1, 3, none⟩ = some (.int .i64 x) := c0.cell 3
  have r9 := (b0.cell 9).trans h9
  have r10 := (b0.cell 10).trans h10
  by_cases q1 : A < 0
  · clear hoff a1 a2 a3 a4
    have t1 : decide (A < 0) = true := decide_eq_true q1
    go_wp2_with (go_at_call 13; refine (HWK.out _).mono ?_; rintro e w3 ⟨rfl, hG3⟩)
    go_ret
    exact ⟨rfl, g0.t hG3⟩
  have t1 : decide (A < 0) = false := decide_eq_false q1
  by_cases q2 : 400 < A
  · clear hoff a1 a2 a3 a4
    have t2 : decide (400 < A) = true := decide_eq_true q2
    go_wp2_with (go_at_call 13; refine (HWK.out _).mono ?_; rintro e w3 ⟨rfl, hG3⟩)
    go_ret
    exact ⟨rfl, g0.t hG3⟩
  have t2 : decide (400 < A) = false := decide_eq_false q2
  obtain ⟨m1, m2⟩ := mul_bd (A := 400) (B := 3000000) (a := A) (b := sl) (by omega) (by omega) (by omega) (by omega)
  obtain ⟨m3, m4⟩ := mul_bd (A := 400) (B := 3000000) (a := A) (b := sh) (by omega) (by omega) (by omega) (by omega)
  obtain ⟨Al, hAl⟩ : ∃ Al, Al = A * sl := ⟨_, rfl⟩
  obtain ⟨Ah, hAh⟩ : ∃ Ah, Ah = A * sh := ⟨_, rfl⟩
  have xl : IntKind.i64.wrap (A * sl) = Al := by rw [hAl]; exact IntWalk.i64_in _ (by omega)
  have xh : IntKind.i64.wrap (A * sh) = Ah := by rw [hAh]; exact IntWalk.i64_in _ (by omega)
  rw [← hAl] at hoff m1 m2
  rw [← hAh] at hoff m3 m4
  clear a1 a2 a3 a4 hAl hAh m1 m2 m3 m4
  by_cases q3 : x < Al
  · clear hoff
    have t3 : decide (x < Al) = true := decide_eq_true q3
    go_wp2_with (go_at_call 13; refine (HWK.out _).mono ?_; rintro e w3 ⟨rfl, hG3⟩)
    go_ret
    exact ⟨rfl, g0.t hG3⟩
  have t3 : decide (x < Al) = false := decide_eq_false q3
  have q4 : Ah < x := by omega
  have t4 : decide (Ah < x) = true := decide_eq_true q4
  clear hoff
  go_wp2_with (go_at_call 13; refine (HWK.out _).mono ?_; rintro e w3 ⟨rfl, hG3⟩)
  go_ret
  exact ⟨rfl, g0.t hG3⟩
/-- the contract of Passes as a row of spans -/
theorem rPs {r : Rl} {w : World} (h : r.Ok w) {i m : Nat} (hi : i < r.n) (hm : m ≤ 9999) : Calls Try.prog 15 #[.agg r.v, .int .i64 (i : Nat), .int .i64 (m : Nat)] w (PsPost w (r.ns i) (fun j => m + loT r.north r.east (r.P i) r.sh j) (fun j => m + hiT r.north r.east (r.P i) r.sl j)) := by
  refine (rPasses_ok h hi hm).mono fun e w' hh => ?_
  obtain ⟨v, rfl, hown, hG⟩ := hh
  have hns := (Rl.ns_le h.nums hi).1
  obtain ⟨g, cap, cur, rfl, hb, hg, ht⟩ := own_some hown (by omega)
  refine ⟨g, cap, rfl, hg, fun j hj => ⟨?_, ?_⟩, hG⟩
  · have := take_cell hb ht (k := j * 2) (by omega) (spV_get r.north r.east (r.P i) r.sl r.sh m _ j hj 0 (by omega))
    exact this
  · have := take_cell hb ht (k := j * 2 + 1) (by omega) (spV_get r.north r.east (r.P i) r.sl r.sh m _ j hj 1 (by omega))
    exact this
section
variable (north cols lofts wrong bx bY sl sh lw lg lh hours dark : Int) (east : List Int) (svs : List Sv) (n k : Nat) (h f : Nat → Nat → Int) (ea sa ha fa : Option Addr) (ec sc hc fc : Nat) (w : World)
set_option maxRecDepth 100000 in
set_option maxHeartbeats 4000000 in
theorem FlightLaw_any (L : Laid east svs n k h f ea sa ha fa w) (home minute A x : Int) : Calls Try.prog 4 #[.agg #[.int .i64 north, .int .i64 cols, .slice ea east.length ec, .int .i64 lofts, .slice sa svs.length sc, .int .i64 wrong, .int .i64 bx, .int .i64 bY, .slice ha n hc, .int .i64 sl, .int .i64 sh, .slice fa k fc, .int .i64 lw, .int .i64 lg, .int .i64 lh, .int .i64 hours, .int .i64 dark], .agg #[.int .i64 home, .int .i64 minute, .int .i64 A, .int .i64 x]] w fun e w' => e = .returned (.bool true) ∧ G w w' := by
  have hV := fun (W : World) (hW : G w W) => valid_any north cols lofts wrong bx bY sl sh lw lg lh hours dark east svs n k h f ea sa ha fa ec sc hc fc W (L.keep hW) home minute
  by_cases hp : (COk north cols lofts wrong bx bY sl sh lw lg lh hours dark east svs n k h f ∧ (0 ≤ home ∧ home < n) ∧ (0 : Int) ≤ minute ∧ minute ≤ (9999 : Int)) ∧ ¬ OffB sl sh A x
  · obtain ⟨hp, hoff⟩ := hp
    obtain ⟨r, hv, hok, hrn, hrk, hre⟩ := to_Rl north cols lofts wrong bx bY sl sh lw lg lh hours dark east svs n k h f ea sa ha fa ec sc hc fc w L hp.1
    obtain ⟨i, rfl⟩ : ∃ i : Nat, home = i := ⟨home.toNat, by omega⟩
    obtain ⟨m, rfl⟩ : ∃ m : Nat, minute = m := ⟨minute.toNat, by omega⟩
    have e9 : (Value.int .i64 (r.sl : Nat)) = .int .i64 sl := by
      have := congrArg (fun a => a[9]?) hv
      exact Option.some.inj this
    have e10 : (Value.int .i64 (r.sh : Nat)) = .int .i64 sh := by
      have := congrArg (fun a => a[10]?) hv
      exact Option.some.inj this
    rw [← hv] at hV ⊢
    have e9 : ((r.sl : Nat) : Int) = sl := by injection e9
    have e10 : ((r.sh : Nat) : Int) = sh := by injection e10
    subst e9 e10
    unfold OffB at hoff
    have hA0 : 0 ≤ A := by omega
    obtain ⟨a, rfl⟩ : ∃ a : Nat, A = a := ⟨A.toNat, by omega⟩
    have y1 : (a : Int) * (r.sl : Nat) ≤ x := by omega
    have y2 : x ≤ (a : Int) * (r.sh : Nat) := by omega
    rw [← Int.natCast_mul] at y1 y2
    obtain ⟨x, rfl⟩ : ∃ y : Nat, x = y := ⟨x.toNat, by omega⟩
    have hi : i < r.n := by omega
    have hN := hok.nums
    have hns := Rl.ns_le hN hi
    have hsp := hN.speed
    have hfar := hok.far hi
    refine FlightLaw_walk r.v r.north (r.cols : Nat) (r.lofts : Nat) r.wrong r.ea r.sa r.east.length r.ec r.svs.length r.sc i m a x r.sl r.sh (r.P i) (lenS r.north r.east (r.P i)) (farL r.north r.east (r.P i)) (atL r.north r.east (r.P i) x) (fun j => m + loT r.north r.east (r.P i) r.sh j) (fun j => m + hiT r.north r.east (r.P i) r.sl j) w (rIs r) rfl rfl rfl rfl rfl rfl rfl rfl (by omega) (by omega) (by omega) (by omega) (by omega) (by omega) (show 1 ≤ r.ns i ∧ r.ns i ≤ 20 by omega)
      (fun W hW => (hV W hW).mono fun e w' hh => by obtain ⟨b, h1, _, h2⟩ := hh; exact ⟨b, h1, h2⟩) (fun W hW => rWay_ok (hok.keep hW) hi) (fun W hW => rPs (hok.keep hW) hi (by omega)) (fun j hj W hW => rLen16 (hok.keep hW) hi hj)
      (by simp [farL]) (fun q _ => farL_succ _ _ _ q) (fun q hq => ?_) rfl (fun q => rfl) (fun q => atL_le _ _ _ _ q) (fun j hj => ?_) (fun hx => ?_) (fun hx => ?_)
    · have hq' : q < r.ns i := hq
      have := hfar q (by omega)
      omega
    · have hq' : j < r.ns i := hj
      have b1 := hfar j (by omega)
      have b2 := hok.len hi hq'
      constructor
      · have : loT r.north r.east (r.P i) r.sh j ≤ farL r.north r.east (r.P i) j := Nat.div_le_self _ _
        show m + _ ≤ _
        omega
      · have : hiT r.north r.east (r.P i) r.sl j ≤ farL r.north r.east (r.P i) j + lenS r.north r.east (r.P i) j + r.sl - 1 := Nat.div_le_self _ _
        show m + _ ≤ _
        omega
    · have := flight_home (show 1 ≤ r.sh by omega) hx (show x ≤ a * r.sh by omega)
      show m + loT _ _ _ _ _ ≤ _
      unfold loT
      omega
    · have := flight_at r.north r.east (r.P i) (show 1 ≤ r.sl by omega) (show 1 ≤ r.sh by omega) (show a * r.sl ≤ x by omega) (show x ≤ a * r.sh by omega) hx
      obtain ⟨_, u1, u2⟩ := this
      exact ⟨Nat.add_le_add_left u1 m, Nat.add_le_add_left u2 m⟩
  · refine FlightOut_walk #[.int .i64 north, .int .i64 cols, .slice ea east.length ec, .int .i64 lofts, .slice sa svs.length sc, .int .i64 wrong, .int .i64 bx, .int .i64 bY, .slice ha n hc, .int .i64 sl, .int .i64 sh, .slice fa k fc, .int .i64 lw, .int .i64 lg, .int .i64 lh, .int .i64 hours, .int .i64 dark] home minute A x sl sh w isRelV rfl rfl (fun W hW => (hV W hW).mono fun e w' hh => ?_)
    obtain ⟨b, h1, h2, h3⟩ := hh
    refine ⟨b, h1, fun hb => ?_, h3⟩
    have h4 := h2 hb
    have hsp := h4.1.1.2.speed
    unfold spanB at hsp
    simp only [Bool.and_eq_true, decide_eq_true_eq] at hsp
    refine ⟨by omega, Classical.byContradiction fun hno => hp ⟨h4, hno⟩⟩
end
end Go.Proofs.Ytcekdljjmfkacaa
