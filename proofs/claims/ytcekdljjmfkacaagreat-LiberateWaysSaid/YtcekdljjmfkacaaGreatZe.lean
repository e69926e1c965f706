import Derived.Test.YtcekdljjmfkacaaGreatXe
import Derived.Test.YtcekdljjmfkacaaGreatSa
import Derived.Test.YtcekdljjmfkacaaGreatOa
set_option linter.unusedSimpArgs false
set_option linter.unusedVariables false
namespace Go.Proofs.YtcekdljjmfkacaaGreat
open Go.RowKit Go.Shelf
attribute [local go_sem] Oper.semAt_some wide_fn wide_dep wideR_fn wideR_dep
theorem rBoth_any (a b c d : Int) (w : World) : Calls Tryz.prog 84 #[.agg #[.int .i64 a, .int .i64 b], .agg #[.int .i64 c, .int .i64 d]] w fun e w' => e = .returned (.agg #[.int .i64 (max a c), .int .i64 (min b d)]) ∧ G w w' := by
  have hmx := fun W => max2 a c W
  have hmn := fun W => min2 b d W
  go_enter Tryz.func84, Tryz.ntmps84
  go_wp2
  have b2 : Blk (((w.alloc (.cells #[.int .i64 a, .int .i64 b] 30)).alloc (.cells #[.int .i64 c, .int .i64 d] 30)).alloc (.cells #[.int .i64 (max a c), .int .i64 (min b d)] 30)) (w.heap.size + 1 + 1) 30 #[.int .i64 (max a c), .int .i64 (min b d)] := (w3_spec6 w _ _ _ _ _ _).2.2.2
  exact bodyPost_ret (resSpan Tryz.f84 4 _ _ (w.heap.size + 1 + 1) _ _ rfl rfl (b2.cell 0) (b2.cell 1)) rfl ⟨rfl, (((G.rf _).a _).a _).a _⟩
theorem res55 (tmps : Array Value) (w : World) (g : Nat) (s : Sk) (h6 : tmps.getD 6 undef = .pointer (some ⟨g, 0, none⟩)) (hB : Blk w g 49 s.v) :
    (results Tryz.f55 tmps).run Tryz.prog w = .ok (.agg s.v) w := by
  obtain ⟨x0, x1, x2, x3, x4, x5⟩ := s
  have c0 : w.cell? ⟨g, 0, none⟩ = some (.int .i64 x0) := hB.cell 0
  have c1 : w.cell? ⟨g, 1, none⟩ = some (.int .i64 x1) := hB.cell 1
  have c2 : w.cell? ⟨g, 2, none⟩ = some (.int .i64 x2) := hB.cell 2
  have c3 : w.cell? ⟨g, 3, none⟩ = some (.int .i64 x3) := hB.cell 3
  have c4 : w.cell? ⟨g, 4, none⟩ = some (.int .i64 x4) := hB.cell 4
  have c5 : w.cell? ⟨g, 5, none⟩ = some (.int .i64 x5) := hB.cell 5
  clear hB
  have hr : Tryz.f55.results = #[.cell 6 49] := rfl
  have h6' : tmps[6]?.getD undef = .pointer (some ⟨g, 0, none⟩) := by simpa using h6
  show _ = Result.ok (Value.agg #[.int .i64 x0, .int .i64 x1, .int .i64 x2, .int .i64 x3, .int .i64 x4, .int .i64 x5]) w
  simp only [results, hr]
  go_simp
section
variable (REL : Array Value) (f : Nat → Nat → Int) (x y t : Int) (k fc : Nat) (fa : Option Addr) (w : World)
set_option maxRecDepth 100000 in
set_option maxHeartbeats 16000000 in
theorem rKnown_any (h11 : REL[11]? = some (.slice fa k fc)) (hR : RowAt w fa k 12 f) (hk12 : k ≤ 1000) :
    Calls Tryz.prog 55 #[.agg REL, .agg #[.int .i64 x, .int .i64 y], .int .i64 t] w fun e w' => e = .returned (.agg (known f x y t k).v) ∧ G w w' := by
  have HR := Lib.hid hR
  have HB := Lib.hid rBoth_any
  have HW := Lib.hid rIn6_any
  clear hR
  obtain ⟨g0, b0, p0, r0⟩ := w3_spec6 w REL #[.int .i64 x, .int .i64 y] #[.int .i64 0, .int .i64 0, .int .i64 0, .int .i64 0, .int .i64 0, .int .i64 0] 35 27 49
  go_enter Tryz.func55, Tryz.ntmps55
  go_upto_region 1 with fail
  change Code.wp _ _ _ _ (((w.alloc (.cells REL 35)).alloc (.cells #[.int .i64 x, .int .i64 y] 27)).alloc (.cells #[.int .i64 0, .int .i64 0, .int .i64 0, .int .i64 0, .int .i64 0, .int .i64 0] 49))
  generalize ((w.alloc (.cells REL 35)).alloc (.cells #[.int .i64 x, .int .i64 y] 27)).alloc (.cells #[.int .i64 0, .int .i64 0, .int .i64 0, .int .i64 0, .int .i64 0, .int .i64 0] 49) = w1 at *
  have hr0 := r0.lt
  go_upto_region 3 with fail
  have gy : G w1 ((w1.alloc (.cells #[.int .i64 0, .int .i64 999] 30)).alloc (.cells skAny.v 49)) := ((G.rf _).a _).a _
  have bS : Blk ((w1.alloc (.cells #[.int .i64 0, .int .i64 999] 30)).alloc (.cells skAny.v 49)) (w1.heap.size + 1) 49 skAny.v := Blk.new1 w1 _ 49 _
  change Code.wp _ _ _ _ ((w1.alloc (.cells #[.int .i64 0, .int .i64 999] 30)).alloc (.cells skAny.v 49))
  generalize (w1.alloc (.cells #[.int .i64 0, .int .i64 999] 30)).alloc (.cells skAny.v 49) = w2 at *
  replace b0 := b0.keep gy
  replace p0 := p0.keep gy
  replace r0 := r0.keep gy
  replace g0 := g0.t gy
  obtain ⟨gS, hgS⟩ : ∃ gS, gS = w1.heap.size + 1 := ⟨_, rfl⟩
  rw [← hgS] at bS ⊢
  have hlS : w.heap.size + 1 + 1 < gS := by
    have := gy.size
    omega
  clear gy hgS
  go_wp2_with fail
  go_loopw [9, 10] (fun v9 u10 wr => ∃ q : Nat, q ≤ k ∧ v9 = .int .i64 (q : Nat) ∧ Blk wr gS 49 (known f x y t q).v ∧ Blk wr w.heap.size 35 REL ∧ Blk wr (w.heap.size + 1) 27 #[.int .i64 x, .int .i64 y] ∧ Blk wr (w.heap.size + 1 + 1) 49 #[.int .i64 0, .int .i64 0, .int .i64 0, .int .i64 0, .int .i64 0, .int .i64 0] ∧ G w wr) (fun v9 _ _ => k - (intOf v9).toNat)
  case atStart => exact ⟨0, Nat.zero_le _, rfl, bS, b0, p0, r0, g0⟩
  case round =>
    clear bS b0 p0 r0 g0 hr0
    obtain ⟨q, hq, rfl, bS, b0, p0, r0, g0⟩ := hrel
    obtain ⟨wo, rfl⟩ : ∃ wo, wo = wr := ⟨_, rfl⟩
    have y11 := (b0.cell 11).trans h11
    have lb := b0.lt
    by_cases hlt : q < k
    · have hki : (q : Int) < k := by omega
      rcases HR.out with h0 | ⟨g, off, rfl, hg, hcell⟩
      · omega
      have lg := Nat.lt_of_lt_of_le hg g0.size
      have e0 : wo.cell? ⟨g, off + q * 12, none⟩ = some (.int .i64 (f q 0)) := ((bcellB g0).1 g _ hg).trans (hcell q hlt 0 (by omega))
      have e1 : wo.cell? ⟨g, off + q * 12 + 1, none⟩ = some (.int .i64 (f q 1)) := ((bcellB g0).1 g _ hg).trans (hcell q hlt 1 (by omega))
      have e2 : wo.cell? ⟨g, off + q * 12 + 2, none⟩ = some (.int .i64 (f q 2)) := ((bcellB g0).1 g _ hg).trans (hcell q hlt 2 (by omega))
      have e3 : wo.cell? ⟨g, off + q * 12 + 3, none⟩ = some (.int .i64 (f q 3)) := ((bcellB g0).1 g _ hg).trans (hcell q hlt 3 (by omega))
      have e4 : wo.cell? ⟨g, off + q * 12 + 4, none⟩ = some (.int .i64 (f q 4)) := ((bcellB g0).1 g _ hg).trans (hcell q hlt 4 (by omega))
      have e5 : wo.cell? ⟨g, off + q * 12 + 5, none⟩ = some (.int .i64 (f q 5)) := ((bcellB g0).1 g _ hg).trans (hcell q hlt 5 (by omega))
      have e6 : wo.cell? ⟨g, off + q * 12 + 6, none⟩ = some (.int .i64 (f q 6)) := ((bcellB g0).1 g _ hg).trans (hcell q hlt 6 (by omega))
      have e7 : wo.cell? ⟨g, off + q * 12 + 7, none⟩ = some (.int .i64 (f q 7)) := ((bcellB g0).1 g _ hg).trans (hcell q hlt 7 (by omega))
      have e8 : wo.cell? ⟨g, off + q * 12 + 8, none⟩ = some (.int .i64 (f q 8)) := ((bcellB g0).1 g _ hg).trans (hcell q hlt 8 (by omega))
      have e9 : wo.cell? ⟨g, off + q * 12 + 9, none⟩ = some (.int .i64 (f q 9)) := ((bcellB g0).1 g _ hg).trans (hcell q hlt 9 (by omega))
      have e10 : wo.cell? ⟨g, off + q * 12 + 10, none⟩ = some (.int .i64 (f q 10)) := ((bcellB g0).1 g _ hg).trans (hcell q hlt 10 (by omega))
      have e11 : wo.cell? ⟨g, off + q * 12 + 11, none⟩ = some (.int .i64 (f q 11)) := ((bcellB g0).1 g _ hg).trans (hcell q hlt 11 (by omega))
      clear hcell
      go_upto_region 7 with fail
      clear e0 e1 e2 e3 e4 e5 e6 e7 e8 e9 e10 e11 y11 lb lg
      have bF : Blk (wo.alloc (.cells #[.int .i64 (f q 0), .int .i64 (f q 1), .int .i64 (f q 2), .int .i64 (f q 3), .int .i64 (f q 4), .int .i64 (f q 5), .int .i64 (f q 6), .int .i64 (f q 7), .int .i64 (f q 8), .int .i64 (f q 9), .int .i64 (f q 10), .int .i64 (f q 11)] 71)) wo.heap.size 71 #[.int .i64 (f q 0), .int .i64 (f q 1), .int .i64 (f q 2), .int .i64 (f q 3), .int .i64 (f q 4), .int .i64 (f q 5), .int .i64 (f q 6), .int .i64 (f q 7), .int .i64 (f q 8), .int .i64 (f q 9), .int .i64 (f q 10), .int .i64 (f q 11)] := Blk.new _ _ _
      have gz : G wo (wo.alloc (.cells #[.int .i64 (f q 0), .int .i64 (f q 1), .int .i64 (f q 2), .int .i64 (f q 3), .int .i64 (f q 4), .int .i64 (f q 5), .int .i64 (f q 6), .int .i64 (f q 7), .int .i64 (f q 8), .int .i64 (f q 9), .int .i64 (f q 10), .int .i64 (f q 11)] 71)) := (G.rf _).a _
      change Code.wp _ _ _ _ (wo.alloc (.cells #[.int .i64 (f q 0), .int .i64 (f q 1), .int .i64 (f q 2), .int .i64 (f q 3), .int .i64 (f q 4), .int .i64 (f q 5), .int .i64 (f q 6), .int .i64 (f q 7), .int .i64 (f q 8), .int .i64 (f q 9), .int .i64 (f q 10), .int .i64 (f q 11)] 71))
      obtain ⟨gF, hgF⟩ : ∃ gF, gF = wo.heap.size := ⟨_, rfl⟩
      obtain ⟨wz, hwz⟩ : ∃ wz, wz = wo.alloc (.cells #[.int .i64 (f q 0), .int .i64 (f q 1), .int .i64 (f q 2), .int .i64 (f q 3), .int .i64 (f q 4), .int .i64 (f q 5), .int .i64 (f q 6), .int .i64 (f q 7), .int .i64 (f q 8), .int .i64 (f q 9), .int .i64 (f q 10), .int .i64 (f q 11)] 71) := ⟨_, rfl⟩
      rw [← hgF] at bF ⊢
      rw [← hwz] at bF gz ⊢
      replace bS := bS.keep gz
      replace b0 := b0.keep gz
      replace p0 := p0.keep gz
      replace r0 := r0.keep gz
      replace g0 := g0.t gz
      clear gz hgF hwz
      have HW1 := Lib.hid (fun W : World => HW.out t (f q 0) (f q 1) W)
      have HW2 := Lib.hid (fun W : World => HW.out x (f q 2) (f q 3) W)
      have HW3 := Lib.hid (fun W : World => HW.out y (f q 4) (f q 5) W)
      have x0 : wz.cell? ⟨w.heap.size + 1, 0, none⟩ = some (.int .i64 x) := p0.cell 0
      have x1 : wz.cell? ⟨w.heap.size + 1, 1, none⟩ = some (.int .i64 y) := p0.cell 1
      have d0 : wz.cell? ⟨gF, 0, none⟩ = some (.int .i64 (f q 0)) := bF.cell 0
      have d1 : wz.cell? ⟨gF, 1, none⟩ = some (.int .i64 (f q 1)) := bF.cell 1
      have d2 : wz.cell? ⟨gF, 2, none⟩ = some (.int .i64 (f q 2)) := bF.cell 2
      have d3 : wz.cell? ⟨gF, 3, none⟩ = some (.int .i64 (f q 3)) := bF.cell 3
      have d4 : wz.cell? ⟨gF, 4, none⟩ = some (.int .i64 (f q 4)) := bF.cell 4
      have d5 : wz.cell? ⟨gF, 5, none⟩ = some (.int .i64 (f q 5)) := bF.cell 5
      have lx := p0.lt
      have ld := bF.lt
      cases i1 : isInB t (f q 0) (f q 1)
      · rw [i1] at HW1
        have HN := Lib.hid (known_no (f := f) (x := x) (y := y) (h := t) (k := q) (by unfold inFr; rw [i1]; rfl))
        clear i1 HW2 HW3
        go_wp2_with (first | (go_at_call 54; refine (HW1.out _).mono ?_; rintro e wnHW1 ⟨rfl, hGn⟩; clear HW1; clear x0 x1 d0 d1 d2 d3 d4 d5 lx ld; replace bS := bS.keep hGn; replace b0 := b0.keep hGn; replace p0 := p0.keep hGn; replace r0 := r0.keep hGn; replace bF := bF.keep hGn; replace g0 := g0.t hGn; clear hGn; have x0 : wnHW1.cell? ⟨w.heap.size + 1, 0, none⟩ = some (.int .i64 x) := p0.cell 0; have x1 : wnHW1.cell? ⟨w.heap.size + 1, 1, none⟩ = some (.int .i64 y) := p0.cell 1; have d0 : wnHW1.cell? ⟨gF, 0, none⟩ = some (.int .i64 (f q 0)) := bF.cell 0; have d1 : wnHW1.cell? ⟨gF, 1, none⟩ = some (.int .i64 (f q 1)) := bF.cell 1; have d2 : wnHW1.cell? ⟨gF, 2, none⟩ = some (.int .i64 (f q 2)) := bF.cell 2; have d3 : wnHW1.cell? ⟨gF, 3, none⟩ = some (.int .i64 (f q 3)) := bF.cell 3; have d4 : wnHW1.cell? ⟨gF, 4, none⟩ = some (.int .i64 (f q 4)) := bF.cell 4; have d5 : wnHW1.cell? ⟨gF, 5, none⟩ = some (.int .i64 (f q 5)) := bF.cell 5; have lx := p0.lt; have ld := bF.lt))
        go_roundw
        case rel => exact ⟨q + 1, by omega, by go_num, by rw [HN.out]; exact bS, b0, p0, r0, g0⟩
        case measure => simp [intOf] <;> omega
      rw [i1] at HW1
      cases i2 : isInB x (f q 2) (f q 3)
      · rw [i2] at HW2
        have HN := Lib.hid (known_no (f := f) (x := x) (y := y) (h := t) (k := q) (by unfold inFr; rw [i1, i2]; rfl))
        clear i1 i2 HW3
        go_wp2_with (first | (go_at_call 54; refine (HW1.out _).mono ?_; rintro e wnHW1 ⟨rfl, hGn⟩; clear HW1; clear x0 x1 d0 d1 d2 d3 d4 d5 lx ld; replace bS := bS.keep hGn; replace b0 := b0.keep hGn; replace p0 := p0.keep hGn; replace r0 := r0.keep hGn; replace bF := bF.keep hGn; replace g0 := g0.t hGn; clear hGn; have x0 : wnHW1.cell? ⟨w.heap.size + 1, 0, none⟩ = some (.int .i64 x) := p0.cell 0; have x1 : wnHW1.cell? ⟨w.heap.size + 1, 1, none⟩ = some (.int .i64 y) := p0.cell 1; have d0 : wnHW1.cell? ⟨gF, 0, none⟩ = some (.int .i64 (f q 0)) := bF.cell 0; have d1 : wnHW1.cell? ⟨gF, 1, none⟩ = some (.int .i64 (f q 1)) := bF.cell 1; have d2 : wnHW1.cell? ⟨gF, 2, none⟩ = some (.int .i64 (f q 2)) := bF.cell 2; have d3 : wnHW1.cell? ⟨gF, 3, none⟩ = some (.int .i64 (f q 3)) := bF.cell 3; have d4 : wnHW1.cell? ⟨gF, 4, none⟩ = some (.int .i64 (f q 4)) := bF.cell 4; have d5 : wnHW1.cell? ⟨gF, 5, none⟩ = some (.int .i64 (f q 5)) := bF.cell 5; have lx := p0.lt; have ld := bF.lt) | (go_at_call 54; refine (HW2.out _).mono ?_; rintro e wnHW2 ⟨rfl, hGn⟩; clear HW2; clear x0 x1 d0 d1 d2 d3 d4 d5 lx ld; replace bS := bS.keep hGn; replace b0 := b0.keep hGn; replace p0 := p0.keep hGn; replace r0 := r0.keep hGn; replace bF := bF.keep hGn; replace g0 := g0.t hGn; clear hGn; have x0 : wnHW2.cell? ⟨w.heap.size + 1, 0, none⟩ = some (.int .i64 x) := p0.cell 0; have x1 : wnHW2.cell? ⟨w.heap.size + 1, 1, none⟩ = some (.int .i64 y) := p0.cell 1; have d0 : wnHW2.cell? ⟨gF, 0, none⟩ = some (.int .i64 (f q 0)) := bF.cell 0; have d1 : wnHW2.cell? ⟨gF, 1, none⟩ = some (.int .i64 (f q 1)) := bF.cell 1; have d2 : wnHW2.cell? ⟨gF, 2, none⟩ = some (.int .i64 (f q 2)) := bF.cell 2; have d3 : wnHW2.cell? ⟨gF, 3, none⟩ = some (.int .i64 (f q 3)) := bF.cell 3; have d4 : wnHW2.cell? ⟨gF, 4, none⟩ = some (.int .i64 (f q 4)) := bF.cell 4; have d5 : wnHW2.cell? ⟨gF, 5, none⟩ = some (.int .i64 (f q 5)) := bF.cell 5; have lx := p0.lt; have ld := bF.lt))
        go_roundw
        case rel => exact ⟨q + 1, by omega, by go_num, by rw [HN.out]; exact bS, b0, p0, r0, g0⟩
        case measure => simp [intOf] <;> omega
      rw [i2] at HW2
      cases i3 : isInB y (f q 4) (f q 5)
      · rw [i3] at HW3
        have HN := Lib.hid (known_no (f := f) (x := x) (y := y) (h := t) (k := q) (by unfold inFr; rw [i1, i2, i3]; rfl))
        clear i1 i2 i3
        go_wp2_with (first | (go_at_call 54; refine (HW1.out _).mono ?_; rintro e wnHW1 ⟨rfl, hGn⟩; clear HW1; clear x0 x1 d0 d1 d2 d3 d4 d5 lx ld; replace bS := bS.keep hGn; replace b0 := b0.keep hGn; replace p0 := p0.keep hGn; replace r0 := r0.keep hGn; replace bF := bF.keep hGn; replace g0 := g0.t hGn; clear hGn; have x0 : wnHW1.cell? ⟨w.heap.size + 1, 0, none⟩ = some (.int .i64 x) := p0.cell 0; have x1 : wnHW1.cell? ⟨w.heap.size + 1, 1, none⟩ = some (.int .i64 y) := p0.cell 1; have d0 : wnHW1.cell? ⟨gF, 0, none⟩ = some (.int .i64 (f q 0)) := bF.cell 0; have d1 : wnHW1.cell? ⟨gF, 1, none⟩ = some (.int .i64 (f q 1)) := bF.cell 1; have d2 : wnHW1.cell? ⟨gF, 2, none⟩ = some (.int .i64 (f q 2)) := bF.cell 2; have d3 : wnHW1.cell? ⟨gF, 3, none⟩ = some (.int .i64 (f q 3)) := bF.cell 3; have d4 : wnHW1.cell? ⟨gF, 4, none⟩ = some (.int .i64 (f q 4)) := bF.cell 4; have d5 : wnHW1.cell? ⟨gF, 5, none⟩ = some (.int .i64 (f q 5)) := bF.cell 5; have lx := p0.lt; have ld := bF.lt) | (go_at_call 54; refine (HW2.out _).mono ?_; rintro e wnHW2 ⟨rfl, hGn⟩; clear HW2; clear x0 x1 d0 d1 d2 d3 d4 d5 lx ld; replace bS := bS.keep hGn; replace b0 := b0.keep hGn; replace p0 := p0.keep hGn; replace r0 := r0.keep hGn; replace bF := bF.keep hGn; replace g0 := g0.t hGn; clear hGn; have x0 : wnHW2.cell? ⟨w.heap.size + 1, 0, none⟩ = some (.int .i64 x) := p0.cell 0; have x1 : wnHW2.cell? ⟨w.heap.size + 1, 1, none⟩ = some (.int .i64 y) := p0.cell 1; have d0 : wnHW2.cell? ⟨gF, 0, none⟩ = some (.int .i64 (f q 0)) := bF.cell 0; have d1 : wnHW2.cell? ⟨gF, 1, none⟩ = some (.int .i64 (f q 1)) := bF.cell 1; have d2 : wnHW2.cell? ⟨gF, 2, none⟩ = some (.int .i64 (f q 2)) := bF.cell 2; have d3 : wnHW2.cell? ⟨gF, 3, none⟩ = some (.int .i64 (f q 3)) := bF.cell 3; have d4 : wnHW2.cell? ⟨gF, 4, none⟩ = some (.int .i64 (f q 4)) := bF.cell 4; have d5 : wnHW2.cell? ⟨gF, 5, none⟩ = some (.int .i64 (f q 5)) := bF.cell 5; have lx := p0.lt; have ld := bF.lt) | (go_at_call 54; refine (HW3.out _).mono ?_; rintro e wnHW3 ⟨rfl, hGn⟩; clear HW3; clear x0 x1 d0 d1 d2 d3 d4 d5 lx ld; replace bS := bS.keep hGn; replace b0 := b0.keep hGn; replace p0 := p0.keep hGn; replace r0 := r0.keep hGn; replace bF := bF.keep hGn; replace g0 := g0.t hGn; clear hGn; have x0 : wnHW3.cell? ⟨w.heap.size + 1, 0, none⟩ = some (.int .i64 x) := p0.cell 0; have x1 : wnHW3.cell? ⟨w.heap.size + 1, 1, none⟩ = some (.int .i64 y) := p0.cell 1; have d0 : wnHW3.cell? ⟨gF, 0, none⟩ = some (.int .i64 (f q 0)) := bF.cell 0; have d1 : wnHW3.cell? ⟨gF, 1, none⟩ = some (.int .i64 (f q 1)) := bF.cell 1; have d2 : wnHW3.cell? ⟨gF, 2, none⟩ = some (.int .i64 (f q 2)) := bF.cell 2; have d3 : wnHW3.cell? ⟨gF, 3, none⟩ = some (.int .i64 (f q 3)) := bF.cell 3; have d4 : wnHW3.cell? ⟨gF, 4, none⟩ = some (.int .i64 (f q 4)) := bF.cell 4; have d5 : wnHW3.cell? ⟨gF, 5, none⟩ = some (.int .i64 (f q 5)) := bF.cell 5; have lx := p0.lt; have ld := bF.lt))
        go_roundw
        case rel => exact ⟨q + 1, by omega, by go_num, by rw [HN.out]; exact bS, b0, p0, r0, g0⟩
        case measure => simp [intOf] <;> omega
      rw [i3] at HW3
      have HN := Lib.hid (known_yes (f := f) (x := x) (y := y) (h := t) (k := q) (by unfold inFr; rw [i1, i2, i3]; rfl))
      clear i1 i2 i3
      go_upto_region 8 with (first | (go_at_call 54; refine (HW1.out _).mono ?_; rintro e wnHW1 ⟨rfl, hGn⟩; clear HW1; clear x0 x1 d0 d1 d2 d3 d4 d5 lx ld; replace bS := bS.keep hGn; replace b0 := b0.keep hGn; replace p0 := p0.keep hGn; replace r0 := r0.keep hGn; replace bF := bF.keep hGn; replace g0 := g0.t hGn; clear hGn; have x0 : wnHW1.cell? ⟨w.heap.size + 1, 0, none⟩ = some (.int .i64 x) := p0.cell 0; have x1 : wnHW1.cell? ⟨w.heap.size + 1, 1, none⟩ = some (.int .i64 y) := p0.cell 1; have d0 : wnHW1.cell? ⟨gF, 0, none⟩ = some (.int .i64 (f q 0)) := bF.cell 0; have d1 : wnHW1.cell? ⟨gF, 1, none⟩ = some (.int .i64 (f q 1)) := bF.cell 1; have d2 : wnHW1.cell? ⟨gF, 2, none⟩ = some (.int .i64 (f q 2)) := bF.cell 2; have d3 : wnHW1.cell? ⟨gF, 3, none⟩ = some (.int .i64 (f q 3)) := bF.cell 3; have d4 : wnHW1.cell? ⟨gF, 4, none⟩ = some (.int .i64 (f q 4)) := bF.cell 4; have d5 : wnHW1.cell? ⟨gF, 5, none⟩ = some (.int .i64 (f q 5)) := bF.cell 5; have lx := p0.lt; have ld := bF.lt) | (go_at_call 54; refine (HW2.out _).mono ?_; rintro e wnHW2 ⟨rfl, hGn⟩; clear HW2; clear x0 x1 d0 d1 d2 d3 d4 d5 lx ld; replace bS := bS.keep hGn; replace b0 := b0.keep hGn; replace p0 := p0.keep hGn; replace r0 := r0.keep hGn; replace bF := bF.keep hGn; replace g0 := g0.t hGn; clear hGn; have x0 : wnHW2.cell? ⟨w.heap.size + 1, 0, none⟩ = some (.int .i64 x) := p0.cell 0; have x1 : wnHW2.cell? ⟨w.heap.size + 1, 1, none⟩ = some (.int .i64 y) := p0.cell 1; have d0 : wnHW2.cell? ⟨gF, 0, none⟩ = some (.int .i64 (f q 0)) := bF.cell 0; have d1 : wnHW2.cell? ⟨gF, 1, none⟩ = some (.int .i64 (f q 1)) := bF.cell 1; have d2 : wnHW2.cell? ⟨gF, 2, none⟩ = some (.int .i64 (f q 2)) := bF.cell 2; have d3 : wnHW2.cell? ⟨gF, 3, none⟩ = some (.int .i64 (f q 3)) := bF.cell 3; have d4 : wnHW2.cell? ⟨gF, 4, none⟩ = some (.int .i64 (f q 4)) := bF.cell 4; have d5 : wnHW2.cell? ⟨gF, 5, none⟩ = some (.int .i64 (f q 5)) := bF.cell 5; have lx := p0.lt; have ld := bF.lt) | (go_at_call 54; refine (HW3.out _).mono ?_; rintro e wnHW3 ⟨rfl, hGn⟩; clear HW3; clear x0 x1 d0 d1 d2 d3 d4 d5 lx ld; replace bS := bS.keep hGn; replace b0 := b0.keep hGn; replace p0 := p0.keep hGn; replace r0 := r0.keep hGn; replace bF := bF.keep hGn; replace g0 := g0.t hGn; clear hGn; have x0 : wnHW3.cell? ⟨w.heap.size + 1, 0, none⟩ = some (.int .i64 x) := p0.cell 0; have x1 : wnHW3.cell? ⟨w.heap.size + 1, 1, none⟩ = some (.int .i64 y) := p0.cell 1; have d0 : wnHW3.cell? ⟨gF, 0, none⟩ = some (.int .i64 (f q 0)) := bF.cell 0; have d1 : wnHW3.cell? ⟨gF, 1, none⟩ = some (.int .i64 (f q 1)) := bF.cell 1; have d2 : wnHW3.cell? ⟨gF, 2, none⟩ = some (.int .i64 (f q 2)) := bF.cell 2; have d3 : wnHW3.cell? ⟨gF, 3, none⟩ = some (.int .i64 (f q 3)) := bF.cell 3; have d4 : wnHW3.cell? ⟨gF, 4, none⟩ = some (.int .i64 (f q 4)) := bF.cell 4; have d5 : wnHW3.cell? ⟨gF, 5, none⟩ = some (.int .i64 (f q 5)) := bF.cell 5; have lx := p0.lt; have ld := bF.lt))
      clear x0 x1 d0 d1 d2 d3 d4 d5 lx ld
      obtain ⟨wz, rfl⟩ : ∃ wz, wz = wnHW3 := ⟨_, rfl⟩
      obtain ⟨s, hs⟩ : ∃ s, s = known f x y t q := ⟨_, rfl⟩
      have HS := Lib.hid hs
      rw [← hs] at bS
      clear hs
      obtain ⟨s0, s1, s2, s3, s4, s5⟩ := s
      have bS2 : Blk wz gS 49 #[.int .i64 s0, .int .i64 s1, .int .i64 s2, .int .i64 s3, .int .i64 s4, .int .i64 s5] := bS
      clear bS
      have bS := bS2
      clear bS2
      have hSk : Hid (∀ W', G wz W' → ((Blk W' gS 49 #[.int .i64 s0, .int .i64 s1, .int .i64 s2, .int .i64 s3, .int .i64 s4, .int .i64 s5] ∧ Blk W' gF 71 #[.int .i64 (f q 0), .int .i64 (f q 1), .int .i64 (f q 2), .int .i64 (f q 3), .int .i64 (f q 4), .int .i64 (f q 5), .int .i64 (f q 6), .int .i64 (f q 7), .int .i64 (f q 8), .int .i64 (f q 9), .int .i64 (f q 10), .int .i64 (f q 11)]))) := fun W' h => ⟨bS.keep h, bF.keep h⟩
      refine wp_region_Y (S := fun W' => (Blk W' gS 49 #[.int .i64 s0, .int .i64 s1, .int .i64 s2, .int .i64 s3, .int .i64 s4, .int .i64 s5] ∧ Blk W' gF 71 #[.int .i64 (f q 0), .int .i64 (f q 1), .int .i64 (f q 2), .int .i64 (f q 3), .int .i64 (f q 4), .int .i64 (f q 5), .int .i64 (f q 6), .int .i64 (f q 7), .int .i64 (f q 8), .int .i64 (f q 9), .int .i64 (f q 10), .int .i64 (f q 11)])) 19 20 rfl (by kernel_rfl) (hSk.out _ (G.rf _).d) (fun hS => ?_)
      have ga := (G.rf wz).d
      refine wpAnyY_take (i := 0) (v := ?_) rfl (by kernel_rfl) (by kernel_rfl) (by kernel_rfl) (by kernel_rfl) (fun _ _ _ h => h) (Or.inl ⟨by kernel_rfl, ?_⟩) hS ?_
      rotate_left
      · intro w' hSw; go_simp; with_reducible rfl
      try simp only [Act.put, List.getElem_toArray, List.getElem_cons_zero, List.getElem_cons_succ, List.setIfInBounds_toArray, List.set_cons_zero, List.set_cons_succ]
      refine wpAnyY_take (i := 1) (v := ?_) rfl (by kernel_rfl) (by kernel_rfl) (by kernel_rfl) (by kernel_rfl) (fun _ _ _ h => h) (Or.inl ⟨by kernel_rfl, ?_⟩) hS ?_
      rotate_left
      · intro w' hSw; have k0 := hSw.1.cell 0; have k1 := hSw.1.cell 1; have lk := hSw.1.lt; go_simp; with_reducible rfl
      try simp only [Act.put, List.getElem_toArray, List.getElem_cons_zero, List.getElem_cons_succ, List.setIfInBounds_toArray, List.set_cons_zero, List.set_cons_succ]
      refine wpAnyY_take (i := 2) (v := ?_) rfl (by kernel_rfl) (by kernel_rfl) (by kernel_rfl) (by kernel_rfl) (fun _ _ _ h => h) (Or.inl ⟨by kernel_rfl, ?_⟩) hS ?_
      rotate_left
      · intro w' hSw; go_simp; with_reducible rfl
      try simp only [Act.put, List.getElem_toArray, List.getElem_cons_zero, List.getElem_cons_succ, List.setIfInBounds_toArray, List.set_cons_zero, List.set_cons_succ]
      refine wpAnyY_take (i := 3) (v := ?_) rfl (by kernel_rfl) (by kernel_rfl) (by kernel_rfl) (by kernel_rfl) (fun _ _ _ h => h) (Or.inl ⟨by kernel_rfl, ?_⟩) hS ?_
      rotate_left
      · intro w' hSw; go_simp; with_reducible rfl
      try simp only [Act.put, List.getElem_toArray, List.getElem_cons_zero, List.getElem_cons_succ, List.setIfInBounds_toArray, List.set_cons_zero, List.set_cons_succ]
      refine wpAnyY_take (i := 4) (v := ?_) rfl (by kernel_rfl) (by kernel_rfl) (by kernel_rfl) (by kernel_rfl) (fun _ _ _ h => h) (Or.inl ⟨by kernel_rfl, ?_⟩) hS ?_
      rotate_left
      · intro w' hSw; have p6 := hSw.2.cell 6; have p7 := hSw.2.cell 7; have lp := hSw.2.lt; go_simp; with_reducible rfl
      try simp only [Act.put, List.getElem_toArray, List.getElem_cons_zero, List.getElem_cons_succ, List.setIfInBounds_toArray, List.set_cons_zero, List.set_cons_succ]
      refine wpAnyY_take (i := 6) (v := ?_) rfl (by kernel_rfl) (by kernel_rfl) (by kernel_rfl) (by kernel_rfl) (fun _ _ _ h => h) (Or.inl ⟨by kernel_rfl, ?_⟩) hS ?_
      rotate_left
      · intro w' hSw; go_simp; with_reducible rfl
      try simp only [Act.put, List.getElem_toArray, List.getElem_cons_zero, List.getElem_cons_succ, List.setIfInBounds_toArray, List.set_cons_zero, List.set_cons_succ]
      refine wpAnyY_take (i := 7) (v := ?_) rfl (by kernel_rfl) (by kernel_rfl) (by kernel_rfl) (by kernel_rfl) (fun _ _ _ h => h) (Or.inl ⟨by kernel_rfl, ?_⟩) hS ?_
      rotate_left
      · intro w' hSw; have k2 := hSw.1.cell 2; have k3 := hSw.1.cell 3; have lk := hSw.1.lt; go_simp; with_reducible rfl
      try simp only [Act.put, List.getElem_toArray, List.getElem_cons_zero, List.getElem_cons_succ, List.setIfInBounds_toArray, List.set_cons_zero, List.set_cons_succ]
      refine wpAnyY_take (i := 8) (v := ?_) rfl (by kernel_rfl) (by kernel_rfl) (by kernel_rfl) (by kernel_rfl) (fun _ _ _ h => h) (Or.inl ⟨by kernel_rfl, ?_⟩) hS ?_
      rotate_left
      · intro w' hSw; go_simp; with_reducible rfl
      try simp only [Act.put, List.getElem_toArray, List.getElem_cons_zero, List.getElem_cons_succ, List.setIfInBounds_toArray, List.set_cons_zero, List.set_cons_succ]
      refine wpAnyY_take (i := 9) (v := ?_) rfl (by kernel_rfl) (by kernel_rfl) (by kernel_rfl) (by kernel_rfl) (fun _ _ _ h => h) (Or.inl ⟨by kernel_rfl, ?_⟩) hS ?_
      rotate_left
      · intro w' hSw; go_simp; with_reducible rfl
      try simp only [Act.put, List.getElem_toArray, List.getElem_cons_zero, List.getElem_cons_succ, List.setIfInBounds_toArray, List.set_cons_zero, List.set_cons_succ]
      refine wpAnyY_take (i := 10) (v := ?_) rfl (by kernel_rfl) (by kernel_rfl) (by kernel_rfl) (by kernel_rfl) (fun _ _ _ h => h) (Or.inl ⟨by kernel_rfl, ?_⟩) hS ?_
      rotate_left
      · intro w' hSw; have p8 := hSw.2.cell 8; have p9 := hSw.2.cell 9; have lp := hSw.2.lt; go_simp; with_reducible rfl
      try simp only [Act.put, List.getElem_toArray, List.getElem_cons_zero, List.getElem_cons_succ, List.setIfInBounds_toArray, List.set_cons_zero, List.set_cons_succ]
      refine wpAnyY_take (i := 12) (v := ?_) rfl (by kernel_rfl) (by kernel_rfl) (by kernel_rfl) (by kernel_rfl) (fun _ _ _ h => h) (Or.inl ⟨by kernel_rfl, ?_⟩) hS ?_
      rotate_left
      · intro w' hSw; go_simp; with_reducible rfl
      try simp only [Act.put, List.getElem_toArray, List.getElem_cons_zero, List.getElem_cons_succ, List.setIfInBounds_toArray, List.set_cons_zero, List.set_cons_succ]
      refine wpAnyY_take (i := 13) (v := ?_) rfl (by kernel_rfl) (by kernel_rfl) (by kernel_rfl) (by kernel_rfl) (fun _ _ _ h => h) (Or.inl ⟨by kernel_rfl, ?_⟩) hS ?_
      rotate_left
      · intro w' hSw; have k4 := hSw.1.cell 4; have k5 := hSw.1.cell 5; have lk := hSw.1.lt; go_simp; with_reducible rfl
      try simp only [Act.put, List.getElem_toArray, List.getElem_cons_zero, List.getElem_cons_succ, List.setIfInBounds_toArray, List.set_cons_zero, List.set_cons_succ]
      refine wpAnyY_take (i := 14) (v := ?_) rfl (by kernel_rfl) (by kernel_rfl) (by kernel_rfl) (by kernel_rfl) (fun _ _ _ h => h) (Or.inl ⟨by kernel_rfl, ?_⟩) hS ?_
      rotate_left
      · intro w' hSw; go_simp; with_reducible rfl
      try simp only [Act.put, List.getElem_toArray, List.getElem_cons_zero, List.getElem_cons_succ, List.setIfInBounds_toArray, List.set_cons_zero, List.set_cons_succ]
      refine wpAnyY_take (i := 15) (v := ?_) rfl (by kernel_rfl) (by kernel_rfl) (by kernel_rfl) (by kernel_rfl) (fun _ _ _ h => h) (Or.inl ⟨by kernel_rfl, ?_⟩) hS ?_
      rotate_left
      · intro w' hSw; go_simp; with_reducible rfl
      try simp only [Act.put, List.getElem_toArray, List.getElem_cons_zero, List.getElem_cons_succ, List.setIfInBounds_toArray, List.set_cons_zero, List.set_cons_succ]
      refine wpAnyY_take (i := 16) (v := ?_) rfl (by kernel_rfl) (by kernel_rfl) (by kernel_rfl) (by kernel_rfl) (fun _ _ _ h => h) (Or.inl ⟨by kernel_rfl, ?_⟩) hS ?_
      rotate_left
      · intro w' hSw; have p10 := hSw.2.cell 10; have p11 := hSw.2.cell 11; have lp := hSw.2.lt; go_simp; with_reducible rfl
      try simp only [Act.put, List.getElem_toArray, List.getElem_cons_zero, List.getElem_cons_succ, List.setIfInBounds_toArray, List.set_cons_zero, List.set_cons_succ]
      refine wpAnyY_oneSW (i := 5) (by kernel_rfl) rfl (by kernel_rfl) (fun K5 hK5 => ?_)
      go_simp
      refine (HB.out _ _ _ _ _).mono ?_
      rintro e wa ⟨rfl, hG5⟩
      replace ga := ga.t hG5
      refine hK5.out _ _ (hSk.out _ ga) (fun hS => ?_)
      try simp only [Act.put, List.getElem_toArray, List.getElem_cons_zero, List.getElem_cons_succ, List.setIfInBounds_toArray, List.set_cons_zero, List.set_cons_succ]
      refine wpAnyY_oneSW (i := 11) (by kernel_rfl) rfl (by kernel_rfl) (fun K11 hK11 => ?_)
      go_simp
      refine (HB.out _ _ _ _ _).mono ?_
      rintro e wb ⟨rfl, hG11⟩
      replace ga := ga.t hG11
      refine hK11.out _ _ (hSk.out _ ga) (fun hS => ?_)
      try simp only [Act.put, List.getElem_toArray, List.getElem_cons_zero, List.getElem_cons_succ, List.setIfInBounds_toArray, List.set_cons_zero, List.set_cons_succ]
      refine wpAnyY_oneSW (i := 17) (by kernel_rfl) rfl (by kernel_rfl) (fun K17 hK17 => ?_)
      go_simp
      refine (HB.out _ _ _ _ _).mono ?_
      rintro e wd ⟨rfl, hG17⟩
      replace ga := ga.t hG17
      refine hK17.out _ _ (hSk.out _ ga) (fun hS => ?_)
      try simp only [Act.put, List.getElem_toArray, List.getElem_cons_zero, List.getElem_cons_succ, List.setIfInBounds_toArray, List.set_cons_zero, List.set_cons_succ]
      refine wpAnyY_take (i := 18) (v := ?_) rfl (by kernel_rfl) (by kernel_rfl) (by kernel_rfl) (by kernel_rfl) (fun _ _ _ h => h) (Or.inl ⟨by kernel_rfl, ?_⟩) hS ?_
      rotate_left
      · intro w' hSw; go_simp; with_reducible rfl
      try simp only [Act.put, List.getElem_toArray, List.getElem_cons_zero, List.getElem_cons_succ, List.setIfInBounds_toArray, List.set_cons_zero, List.set_cons_succ]
      replace bS := bS.keep ga
      have hlG := hlS
      clear hS
      have q0 : wd.cell? ⟨gS, 0, none⟩ = some (.int .i64 s0) := bS.cell 0
      have z0 := bS.frozen 0
      have q1 : wd.cell? ⟨gS, 1, none⟩ = some (.int .i64 s1) := bS.cell 1
      have z1 := bS.frozen 1
      have q2 : wd.cell? ⟨gS, 2, none⟩ = some (.int .i64 s2) := bS.cell 2
      have z2 := bS.frozen 2
      have q3 : wd.cell? ⟨gS, 3, none⟩ = some (.int .i64 s3) := bS.cell 3
      have z3 := bS.frozen 3
      have q4 : wd.cell? ⟨gS, 4, none⟩ = some (.int .i64 s4) := bS.cell 4
      have z4 := bS.frozen 4
      have q5 : wd.cell? ⟨gS, 5, none⟩ = some (.int .i64 s5) := bS.cell 5
      have z5 := bS.frozen 5
      have lS := bS.lt
      refine wpAnyY_oneW (i := 19) (by kernel_rfl) rfl (by kernel_rfl) (by kernel_rfl) (fun K19 hK19 => ?_)
      go_simp
      refine hK19.out _ _ ?_
      try simp only [Act.put, List.getElem_toArray, List.getElem_cons_zero, List.getElem_cons_succ, List.setIfInBounds_toArray, List.set_cons_zero, List.set_cons_succ]
      refine wpAnyY_done (by kernel_rfl) ?_ _
      clear q0 q1 q2 q3 q4 q5 z0 z1 z2 z3 z4 z5 lS
      have bS3 : Blk (((((((wd).setCell ⟨gS, 0, none⟩ (.int .i64 (max s0 (f q 6)))).setCell ⟨gS, 1, none⟩ (.int .i64 (min s1 (f q 7)))).setCell ⟨gS, 2, none⟩ (.int .i64 (max s2 (f q 8)))).setCell ⟨gS, 3, none⟩ (.int .i64 (min s3 (f q 9)))).setCell ⟨gS, 4, none⟩ (.int .i64 (max s4 (f q 10)))).setCell ⟨gS, 5, none⟩ (.int .i64 (min s5 (f q 11)))) gS 49 (known f x y t (q + 1)).v := by
        rw [HN.out, ← HS.out]
        exact W6_blk bS _ _ _ _ _ _
      have hfar := (W6_heap wd gS (.int .i64 (max s0 (f q 6))) (.int .i64 (min s1 (f q 7))) (.int .i64 (max s2 (f q 8))) (.int .i64 (min s3 (f q 9))) (.int .i64 (max s4 (f q 10))) (.int .i64 (min s5 (f q 11))) : ∀ b, b ≠ gS → (((((((wd).setCell ⟨gS, 0, none⟩ (.int .i64 (max s0 (f q 6)))).setCell ⟨gS, 1, none⟩ (.int .i64 (min s1 (f q 7)))).setCell ⟨gS, 2, none⟩ (.int .i64 (max s2 (f q 8)))).setCell ⟨gS, 3, none⟩ (.int .i64 (min s3 (f q 9)))).setCell ⟨gS, 4, none⟩ (.int .i64 (max s4 (f q 10)))).setCell ⟨gS, 5, none⟩ (.int .i64 (min s5 (f q 11)))).heap[b]? = wd.heap[b]?)
      have hb0 := ((hfar _ (by omega)).trans (b0.keep ga) : Blk (((((((wd).setCell ⟨gS, 0, none⟩ (.int .i64 (max s0 (f q 6)))).setCell ⟨gS, 1, none⟩ (.int .i64 (min s1 (f q 7)))).setCell ⟨gS, 2, none⟩ (.int .i64 (max s2 (f q 8)))).setCell ⟨gS, 3, none⟩ (.int .i64 (min s3 (f q 9)))).setCell ⟨gS, 4, none⟩ (.int .i64 (max s4 (f q 10)))).setCell ⟨gS, 5, none⟩ (.int .i64 (min s5 (f q 11)))) w.heap.size 35 REL)
      have hp0 := ((hfar _ (by omega)).trans (p0.keep ga) : Blk (((((((wd).setCell ⟨gS, 0, none⟩ (.int .i64 (max s0 (f q 6)))).setCell ⟨gS, 1, none⟩ (.int .i64 (min s1 (f q 7)))).setCell ⟨gS, 2, none⟩ (.int .i64 (max s2 (f q 8)))).setCell ⟨gS, 3, none⟩ (.int .i64 (min s3 (f q 9)))).setCell ⟨gS, 4, none⟩ (.int .i64 (max s4 (f q 10)))).setCell ⟨gS, 5, none⟩ (.int .i64 (min s5 (f q 11)))) (w.heap.size + 1) 27 #[.int .i64 x, .int .i64 y])
      have hr0 := ((hfar _ (by omega)).trans (r0.keep ga) : Blk (((((((wd).setCell ⟨gS, 0, none⟩ (.int .i64 (max s0 (f q 6)))).setCell ⟨gS, 1, none⟩ (.int .i64 (min s1 (f q 7)))).setCell ⟨gS, 2, none⟩ (.int .i64 (max s2 (f q 8)))).setCell ⟨gS, 3, none⟩ (.int .i64 (min s3 (f q 9)))).setCell ⟨gS, 4, none⟩ (.int .i64 (max s4 (f q 10)))).setCell ⟨gS, 5, none⟩ (.int .i64 (min s5 (f q 11)))) (w.heap.size + 1 + 1) 49 #[.int .i64 0, .int .i64 0, .int .i64 0, .int .i64 0, .int .i64 0, .int .i64 0])
      have hg0 := (W6_G (by omega) (g0.t ga) (.int .i64 (max s0 (f q 6))) (.int .i64 (min s1 (f q 7))) (.int .i64 (max s2 (f q 8))) (.int .i64 (min s3 (f q 9))) (.int .i64 (max s4 (f q 10))) (.int .i64 (min s5 (f q 11))) : G w (((((((wd).setCell ⟨gS, 0, none⟩ (.int .i64 (max s0 (f q 6)))).setCell ⟨gS, 1, none⟩ (.int .i64 (min s1 (f q 7)))).setCell ⟨gS, 2, none⟩ (.int .i64 (max s2 (f q 8)))).setCell ⟨gS, 3, none⟩ (.int .i64 (min s3 (f q 9)))).setCell ⟨gS, 4, none⟩ (.int .i64 (max s4 (f q 10)))).setCell ⟨gS, 5, none⟩ (.int .i64 (min s5 (f q 11)))))
      have HALL := Lib.hid (And.intro bS3 (And.intro hb0 (And.intro hp0 (And.intro hr0 hg0))))
      clear bS3 hfar hb0 hp0 hr0 hg0 bS b0 p0 r0 g0 bF ga hSk
      go_wp2_with fail
      go_roundw
      case rel => exact ⟨q + 1, by omega, by go_num, HALL.out⟩
      case measure => simp [intOf] <;> omega
    · obtain rfl : q = k := by omega
      have hki : ¬ ((q : Nat) : Int) < q := by omega
      obtain ⟨s, hs⟩ : ∃ s, s = known f x y t q := ⟨_, rfl⟩
      have HS := Lib.hid hs
      rw [← hs] at bS
      clear hs
      obtain ⟨s0, s1, s2, s3, s4, s5⟩ := s
      have k0 : wo.cell? ⟨gS, 0, none⟩ = some (.int .i64 s0) := bS.cell 0
      have k1 : wo.cell? ⟨gS, 1, none⟩ = some (.int .i64 s1) := bS.cell 1
      have k2 : wo.cell? ⟨gS, 2, none⟩ = some (.int .i64 s2) := bS.cell 2
      have k3 : wo.cell? ⟨gS, 3, none⟩ = some (.int .i64 s3) := bS.cell 3
      have k4 : wo.cell? ⟨gS, 4, none⟩ = some (.int .i64 s4) := bS.cell 4
      have k5 : wo.cell? ⟨gS, 5, none⟩ = some (.int .i64 s5) := bS.cell 5
      have lk := bS.lt
      have q0 := r0.cell 0; have q1 := r0.cell 1; have q2 := r0.cell 2; have q3 := r0.cell 3; have q4 := r0.cell 4; have q5 := r0.cell 5
      have z0 := r0.frozen 0; have z1 := r0.frozen 1; have z2 := r0.frozen 2; have z3 := r0.frozen 3; have z4 := r0.frozen 4; have z5 := r0.frozen 5
      have lr := r0.lt
      have hB6 : Blk (W6 wo (w.heap.size + 1 + 1) (.int .i64 s0) (.int .i64 s1) (.int .i64 s2) (.int .i64 s3) (.int .i64 s4) (.int .i64 s5)) (w.heap.size + 1 + 1) 49 (Sk.mk s0 s1 s2 s3 s4 s5).v := W6_blk r0 _ _ _ _ _ _
      have hg6 := W6_G (W := wo) (w0 := w) (g := w.heap.size + 1 + 1) (by omega) g0 (.int .i64 s0) (.int .i64 s1) (.int .i64 s2) (.int .i64 s3) (.int .i64 s4) (.int .i64 s5)
      have HF := Lib.hid hg6
      have HB6 := Lib.hid hB6
      clear hB6 hg6 HR HB HW
      go_wp2_with fail
      exact bodyPost_ret (res55 _ _ (w.heap.size + 1 + 1) (Sk.mk s0 s1 s2 s3 s4 s5) rfl HB6.out) rfl ⟨by rw [← HS.out], HF.out⟩
end
end Go.Proofs.YtcekdljjmfkacaaGreat
