import Derived.Below
import Derived.BigQuiet
import Derived.ChangeOld
import Derived.Deep.AppendLies
import Derived.Deep.Draws
import Derived.Deep.QuietTactic
import Derived.Deep.RegionHeld
import Derived.Deep.Slices
import Derived.Ground.Names2Prog
import Derived.Ground.SlsfProg
import Derived.Ground.SlsoProg
import Derived.IntWalk
import Derived.Laws.AppendOwn
import Derived.Laws.AppendOwnNone
import Derived.Laws.Bits128
import Derived.Laws.OwnMore
import Derived.Laws.Rows
import Derived.Laws.StructEq
import Derived.Lib.Hide
import Derived.Lib.SlKeysI
import Derived.Lib.SliceRun
import Derived.Lib.SmallJoins
import Derived.LoopIn
import Derived.LoopNIn
import Derived.Maps.OwnIn
import Derived.Maps.RangeWalk
import Derived.OpenShut
import Derived.OrdersHeld
import Derived.OrdersIn
import Derived.Outline
import Derived.OwnWalkIn
import Derived.ProofKit
import Derived.RangeFuncBound
import Derived.RangeFuncCalls
import Derived.RangeFuncLeaves
import Derived.RangeFuncNested
import Derived.Shelf.Abstract
import Derived.Shelf.GgSortFunc.InsertionK
import Derived.Shelf.RegionOpen
import Derived.Shelf.SlSortCmp.NoneTotal
import Derived.Shelf.SlSortCmp.WholeK
import Derived.Shelf.SlSorted.Search
import Derived.Shelf.Slices.Cells
import Derived.Shelf.Slices.CompactI
import Derived.Shelf.Slices.In.SortNone
import Derived.Shelf.Slices.SearchI
import Derived.Shelf.Small.Bits
import Derived.Shelf.Sort.Plain
import Derived.Shelf.Strconv.Itoa0
import Derived.Sort.Grow
import Derived.Sort.MapsRangeIn
import Derived.TacticsIn
import Derived.TacticsInMore
import Derived.Test.YtnkmcoljijmgpaaGreatProg
import Derived.WalkKit
import Derived.WalkSpells
import Derived.Test.YtnkmcoljijmgpaaGreatS6
set_option linter.unusedSimpArgs false
set_option linter.unusedVariables false
namespace Go.Proofs.YtnkmcoljijmgpaaGreat
open Go.RowKit Go.Shelf Go.Sort Go.Maps
attribute [local go_sem] Oper.semAt_some
theorem res64 (tmps : Array Value) (w : World) (g : Nat) (a b c d : Int) (h : tmps.getD 4 undef = .pointer (some ⟨g, 0, none⟩)) (hB : Blk w g 33 #[.int .i64 a, .int .i64 b, .int .i64 c, .int .i64 d]) :
    (results Tryz.f64 tmps).run Tryz.prog w = .ok (.agg #[.int .i64 a, .int .i64 b, .int .i64 c, .int .i64 d]) w := by
  have c0 := hB.cell 0
  have c1 := hB.cell 1
  have c2 := hB.cell 2
  have c3 := hB.cell 3
  clear hB
  have hr : Tryz.f64.results = #[.cell 4 33] := rfl
  have h' : tmps[4]?.getD undef = .pointer (some ⟨g, 0, none⟩) := by simpa using h
  simp only [results, hr]
  go_simp
theorem pool_bd {x : Po} (h : poolB x = true) : 0 ≤ x.stake ∧ x.stake ≤ 100000 ∧ 0 ≤ x.cut ∧ x.cut ≤ 1000 := by
  unfold poolB isInB at h
  simp only [Bool.and_eq_true, decide_eq_true_eq] at h
  omega
set_option maxRecDepth 100000 in
set_option maxHeartbeats 8000000 in
theorem pot64_any (r : Ra) (j : Nat) (w : World) (h : r.At w) (hr : raceB r = true) (hj : j < r.pools.length) : Calls Tryz.prog 64 #[.agg r.v, .int .i64 (j : Nat)] w fun e w' => e = .returned (.agg #[.int .i64 (totI (fuOf r j none 0)), .int .i64 (kepI (fuOf r j none 0)), .int .i64 (lefI (fuOf r j none 0)), .int .i64 0]) ∧ G w w' := by
  have hrv : r.v = #[.slice r.ra r.racers.length r.rc, .slice r.pa r.pools.length r.pc, .slice r.ta r.protests.length r.tc] := rfl
  have h12 := (uniq_of (race_parts hr)).1
  have hrl := runners_len r j
  have hnl : (namedL r j).length = (runners r j).length := by unfold namedL; rw [List.length_map]
  have HNA := Lib.hid (fun (W : World) (hW : G w W) => naQ0 r j (runners r j).length W (h.keep hW) hnl)
  have hmp : r.pools.getD j default ∈ r.pools := by
    rw [List.getD_eq_getElem?_getD, List.getElem?_eq_getElem hj]
    exact List.getElem_mem hj
  have hpb := pool_bd (((race_iff r).1 hr).2.1 _ hmp)
  have hT : totI (fuOf r j none 0) = (r.pools.getD j default).stake * (runners r j).length := rfl
  have hK : kepI (fuOf r j none 0) = totI (fuOf r j none 0) * (r.pools.getD j default).cut / 1000 := rfl
  have hL : lefI (fuOf r j none 0) = totI (fuOf r j none 0) - kepI (fuOf r j none 0) := rfl
  obtain ⟨T, hT0⟩ : ∃ T, T = totI (fuOf r j none 0) := ⟨_, rfl⟩
  obtain ⟨C, hC0⟩ : ∃ C, C = kepI (fuOf r j none 0) := ⟨_, rfl⟩
  obtain ⟨L, hL0⟩ : ∃ L, L = lefI (fuOf r j none 0) := ⟨_, rfl⟩
  rw [← hT0] at hT
  rw [← hT0, ← hC0] at hK
  rw [← hT0, ← hC0, ← hL0] at hL
  rw [← hT0, ← hC0, ← hL0]
  rcases h.ps.row with hx | ⟨gp, op, hpe, hgp, hcell⟩
  · omega
  have hcl := hcell j hj
  obtain ⟨⟨xs, xc, xk, xa, xd, xt, xq, xf⟩, hX⟩ : ∃ X, X = r.pools.getD j default := ⟨_, rfl⟩
  rw [← hX] at hpb hT hK hcl
  dsimp only at hpb hT hK
  unfold Po.v at hcl
  obtain ⟨n, hn⟩ : ∃ n, n = (runners r j).length := ⟨_, rfl⟩
  rw [← hn] at HNA hT hrl
  have hn12 : n ≤ 12 := by omega
  have hTb : 0 ≤ T ∧ T ≤ 1200000 := by
    rw [hT]
    refine ⟨Int.mul_nonneg hpb.1 (by omega), ?_⟩
    have h1 : xs * (n : Int) ≤ 100000 * n := Int.mul_le_mul_of_nonneg_right hpb.2.1 (by omega)
    omega
  have hTC : 0 ≤ T * xc ∧ T * xc ≤ 1200000000 := by
    refine ⟨Int.mul_nonneg hTb.1 hpb.2.2.1, ?_⟩
    have h1 : T * xc ≤ T * 1000 := Int.mul_le_mul_of_nonneg_left hpb.2.2.2 hTb.1
    omega
  have hw1 : IntKind.i64.wrap (xs * (n : Int)) = T := by rw [← hT]; exact IntWalk.i64_in _ (by omega)
  have hw2 : IntKind.i64.wrap (T * xc) = T * xc := IntWalk.i64_in _ (by omega)
  have hd : (T * xc).tdiv 1000 = C := by rw [hK]; exact Int.tdiv_eq_ediv_of_nonneg hTC.1
  have hCb : 0 ≤ C ∧ C ≤ 1200000 := by rw [hK]; omega
  have hw3 : IntKind.i64.wrap C = C := IntWalk.i64_in _ (by omega)
  have hw4 : IntKind.i64.wrap (T - C) = L := by rw [hL]; exact IntWalk.i64_in _ (by omega)
  rw [hrv]
  have q0 : w.cell? ⟨gp, op + j * 6, none⟩ = some (.int .i64 xs) := hcl 0 (by omega)
  have q1 : w.cell? ⟨gp, op + j * 6 + 1, none⟩ = some (.int .i64 xc) := hcl 1 (by omega)
  have q2 : w.cell? ⟨gp, op + j * 6 + 2, none⟩ = some (.int .i64 xk) := hcl 2 (by omega)
  have q3 : w.cell? ⟨gp, op + j * 6 + 3, none⟩ = some (.slice xa xt.length xd) := hcl 3 (by omega)
  have q4 : w.cell? ⟨gp, op + j * 6 + 4, none⟩ = some (.int .i64 xq) := hcl 4 (by omega)
  have q5 : w.cell? ⟨gp, op + j * 6 + 5, none⟩ = some (.bool xf) := hcl 5 (by omega)
  obtain ⟨xn, hxn⟩ : ∃ xn, xn = xt.length := ⟨_, rfl⟩
  rw [← hxn] at q3
  have HW1 := Lib.hid hw1
  have hji : (j : Int) < r.pools.length := by omega
  obtain ⟨W1, hW1⟩ : ∃ W1, W1 = (w.alloc (.cells #[.slice r.ra r.racers.length r.rc, .slice r.pa r.pools.length r.pc, .slice r.ta r.protests.length r.tc] 26)).alloc (.cells #[.int .i64 0, .int .i64 0, .int .i64 0, .int .i64 0] 33) := ⟨_, rfl⟩
  have g1 : G w W1 := by rw [hW1]; exact ((G.rf _).a _).a _
  have b0 : Blk W1 w.heap.size 26 #[.slice r.ra r.racers.length r.rc, .slice r.pa r.pools.length r.pc, .slice r.ta r.protests.length r.tc] := by rw [hW1]; exact (Blk.new _ _ _).alloc _
  have b1 : Blk W1 (w.heap.size + 1) 33 #[.int .i64 0, .int .i64 0, .int .i64 0, .int .i64 0] := by rw [hW1]; exact Blk.new1 _ _ _ _
  have hs1 : W1.heap.size = w.heap.size + 1 + 1 := by rw [hW1, World.size_alloc, World.size_alloc]
  have HPE := Lib.hid hpe
  clear hT0 hC0 hL0 hpe h hr hmp hX hn hxn hcl hcell hT hK hL hrv hnl hTC hrl
  go_enter Tryz.func64, Tryz.ntmps64
  go_upto_region 1 with fail
  change Code.wp _ _ _ _ ((w.alloc (.cells #[.slice r.ra r.racers.length r.rc, .slice r.pa r.pools.length r.pc, .slice r.ta r.protests.length r.tc] 26)).alloc (.cells #[.int .i64 0, .int .i64 0, .int .i64 0, .int .i64 0] 33))
  rw [← hW1]
  clear hW1
  have e := fun q => (bcellB g1).1 gp q hgp
  rw [← e] at q0 q1 q2 q3 q4 q5
  have lgp : gp < W1.heap.size := Nat.lt_of_lt_of_le hgp g1.size
  have m1 := b0.cell 1
  rw [HPE.out] at m1
  have m1' : W1.cell? ⟨w.heap.size, 1, none⟩ = some (.slice (some ⟨gp, op, none⟩) r.pools.length r.pc) := m1
  have l0 := b0.lt
  clear e m1
  go_upto_region 2 with fail
  obtain ⟨W2, hW2⟩ : ∃ W2, W2 = W1.alloc (.cells #[.int .i64 xs, .int .i64 xc, .int .i64 xk, .slice xa xn xd, .int .i64 xq, .bool xf] 42) := ⟨_, rfl⟩
  have g2 : G w W2 := by rw [hW2]; exact g1.a _
  have HB0 : Hid (Blk W2 w.heap.size 26 #[.slice r.ra r.racers.length r.rc, .slice r.pa r.pools.length r.pc, .slice r.ta r.protests.length r.tc]) := by rw [hW2]; exact b0.alloc _
  have HB1 : Hid (Blk W2 (w.heap.size + 1) 33 #[.int .i64 0, .int .i64 0, .int .i64 0, .int .i64 0]) := by rw [hW2]; exact b1.alloc _
  have HBP : Hid (Blk W2 (w.heap.size + 1 + 1) 42 #[.int .i64 xs, .int .i64 xc, .int .i64 xk, .slice xa xn xd, .int .i64 xq, .bool xf]) := by
    rw [hW2, ← hs1]
    exact Blk.new _ _ _
  have hs2 : w.heap.size + 1 + 1 < W2.heap.size := HBP.out.lt
  try rw [hs1]
  rw [← hW2]
  clear hW2 q0 q1 q2 q3 q4 q5 lgp m1' l0 b0 b1 hs1 g1
  refine wp_region_Y (S := fun W' => G W2 W') 9 10 rfl (by kernel_rfl) (G.rf _).d (fun hS => ?_)
  have gd : G W2 W2.drew := (G.rf _).d
  refine wpAnyY_take (i := 0) (v := ?_) rfl (by kernel_rfl) (by kernel_rfl) (by kernel_rfl) (by kernel_rfl) (fun _ _ _ h => h) (Or.inl ⟨by kernel_rfl, ?_⟩) hS ?_
  rotate_left
  · intro w' hSw; go_simp; with_reducible rfl
  try simp only [Act.put, List.getElem_toArray, List.getElem_cons_zero, List.getElem_cons_succ, List.setIfInBounds_toArray, List.set_cons_zero, List.set_cons_succ]
  refine wpAnyY_take (i := 1) (v := ?_) rfl (by kernel_rfl) (by kernel_rfl) (by kernel_rfl) (by kernel_rfl) (fun _ _ _ h => h) (Or.inl ⟨by kernel_rfl, ?_⟩) hS ?_
  rotate_left
  · intro w' hSw; have s0 := (HBP.out.keep hSw).cell 0; have s1 := (HBP.out.keep hSw).lt; go_simp; with_reducible rfl
  try simp only [Act.put, List.getElem_toArray, List.getElem_cons_zero, List.getElem_cons_succ, List.setIfInBounds_toArray, List.set_cons_zero, List.set_cons_succ]
  refine wpAnyY_take (i := 2) (v := ?_) rfl (by kernel_rfl) (by kernel_rfl) (by kernel_rfl) (by kernel_rfl) (fun _ _ _ h => h) (Or.inl ⟨by kernel_rfl, ?_⟩) hS ?_
  rotate_left
  · intro w' hSw; have s0 := (HB0.out.keep hSw).cell 0; have s1 := (HB0.out.keep hSw).cell 1; have s2 := (HB0.out.keep hSw).cell 2; have s3 := (HB0.out.keep hSw).lt; go_simp; with_reducible rfl
  try simp only [Act.put, List.getElem_toArray, List.getElem_cons_zero, List.getElem_cons_succ, List.setIfInBounds_toArray, List.set_cons_zero, List.set_cons_succ]
  refine wpAnyY_take (i := 3) (v := ?_) rfl (by kernel_rfl) (by kernel_rfl) (by kernel_rfl) (by kernel_rfl) (fun _ _ _ h => h) (Or.inl ⟨by kernel_rfl, ?_⟩) hS ?_
  rotate_left
  · intro w' hSw; go_simp; with_reducible rfl
  try simp only [Act.put, List.getElem_toArray, List.getElem_cons_zero, List.getElem_cons_succ, List.setIfInBounds_toArray, List.set_cons_zero, List.set_cons_succ]
  refine wpAnyY_twoSW (i := 4) (j := 8) (by kernel_rfl) rfl rfl (by kernel_rfl) (by kernel_rfl) (fun K4 hK4 => ?_) (fun K8 hK8 => ?_)
  · go_simp
    refine (HNA.out _ (g2.t gd)).mono ?_
    rintro e w3 ⟨hG3, na, nc, rfl, hni⟩
    refine hK4.out _ _ (gd.t hG3) (fun hS => ?_)
    clear hK4 hni
    try simp only [Act.put, List.getElem_toArray, List.getElem_cons_zero, List.getElem_cons_succ, List.setIfInBounds_toArray, List.set_cons_zero, List.set_cons_succ]
    refine wpAnyY_take (i := 5) (v := ?_) rfl (by kernel_rfl) (by kernel_rfl) (by kernel_rfl) (by kernel_rfl) (fun _ _ _ h => h) (Or.inl ⟨by kernel_rfl, ?_⟩) hS ?_
    rotate_left
    · intro w' hSw; go_simp; with_reducible rfl
    try simp only [Act.put, List.getElem_toArray, List.getElem_cons_zero, List.getElem_cons_succ, List.setIfInBounds_toArray, List.set_cons_zero, List.set_cons_succ]
    refine wpAnyY_take (i := 6) (v := ?_) rfl (by kernel_rfl) (by kernel_rfl) (by kernel_rfl) (by kernel_rfl) (fun _ _ _ h => h) (Or.inl ⟨by kernel_rfl, ?_⟩) hS ?_
    rotate_left
    · intro w' hSw; go_simp; with_reducible rfl
    try simp only [Act.put, List.getElem_toArray, List.getElem_cons_zero, List.getElem_cons_succ, List.setIfInBounds_toArray, List.set_cons_zero, List.set_cons_succ]
    refine wpAnyY_take (i := 7) (v := ?_) rfl (by kernel_rfl) (by kernel_rfl) (by kernel_rfl) (by kernel_rfl) (fun _ _ _ h => h) (Or.inl ⟨by kernel_rfl, ?_⟩) hS ?_
    rotate_left
    · intro w' hSw; go_simp; with_reducible rfl
    try simp only [Act.put, List.getElem_toArray, List.getElem_cons_zero, List.getElem_cons_succ, List.setIfInBounds_toArray, List.set_cons_zero, List.set_cons_succ]
    refine wpAnyY_oneSW (i := 8) (by kernel_rfl) rfl (by kernel_rfl) (fun K8 hK8 => ?_)
    go_simp
    refine hK8.out _ _ ((gd.t hG3).a _) (fun hS => ?_)
    clear hK8
    try simp only [Act.put, List.getElem_toArray, List.getElem_cons_zero, List.getElem_cons_succ, List.setIfInBounds_toArray, List.set_cons_zero, List.set_cons_succ]
    have bX := Blk.new w3 33 #[.int .i64 0, .int .i64 0, .int .i64 0, .int .i64 0]
    have c0 := bX.cell 0
    have c1 := bX.cell 1
    have c2 := bX.cell 2
    have c3 := bX.cell 3
    have z0 := bX.frozen 0
    have z1 := bX.frozen 1
    have z2 := bX.frozen 2
    have z3 := bX.frozen 3
    have lX := bX.lt
    refine wpAnyY_oneW (i := 9) (by kernel_rfl) rfl (by kernel_rfl) (by kernel_rfl) (fun K9 hK9 => ?_)
    go_simp
    refine hK9.out _ _ ?_
    clear hK9
    try simp only [Act.put, List.getElem_toArray, List.getElem_cons_zero, List.getElem_cons_succ, List.setIfInBounds_toArray, List.set_cons_zero, List.set_cons_succ]
    refine wpAnyY_done (by kernel_rfl) ?_ _
    clear hS c0 c1 c2 c3 z0 z1 z2 z3 lX
    have bY := Blk.new w3 33 #[.int .i64 T, .int .i64 0, .int .i64 0, .int .i64 0]
    have gX := (gd.t hG3).a (.cells #[.int .i64 T, .int .i64 0, .int .i64 0, .int .i64 0] 33)
    have hge := (gd.t hG3).size
    obtain ⟨GX, hGX⟩ : ∃ GX, GX = w3.heap.size := ⟨_, rfl⟩
    rw [← hGX] at bY hge ⊢
    clear hGX bX
    have bP := HBP.out.keep gX
    have b1 := HB1.out.keep gX
    have gw := g2.t gX
    generalize (w3.alloc (.cells #[.int .i64 T, .int .i64 0, .int .i64 0, .int .i64 0] 33)) = WX at *
    have x0 := bY.cell 0
    have x1 := bY.cell 1
    have y1 := bY.frozen 1
    have lx := bY.lt
    have p1 := bP.cell 1
    have lp := bP.lt
    go_upto_region 4 with fail
    clear x0 x1 y1 lx p1 lp
    have bY2 := bY.set_ 1 (.int .i64 C)
    simp only [List.setIfInBounds_toArray, List.set_cons_zero, List.set_cons_succ] at bY2
    have f2 : Fr (fun i => i = GX) WX (WX.setCell ⟨GX, 1, none⟩ (.int .i64 C)) := (Fr.rf (fun i => i = GX) WX).s (p := ⟨GX, 1, none⟩) (.inl rfl) _
    generalize WX.setCell ⟨GX, 1, none⟩ (.int .i64 C) = WY at *
    have x0 := bY2.cell 0
    have x1 := bY2.cell 1
    have x2 := bY2.cell 2
    have y2 := bY2.frozen 2
    have lx := bY2.lt
    go_upto_region 5 with fail
    clear x0 x1 x2 y2 lx
    have bY3 := bY2.set_ 2 (.int .i64 L)
    simp only [List.setIfInBounds_toArray, List.set_cons_zero, List.set_cons_succ] at bY3
    have f3 := f2.s (p := ⟨GX, 2, none⟩) (.inl rfl) (.int .i64 L)
    generalize WY.setCell ⟨GX, 2, none⟩ (.int .i64 L) = WZ at *
    have b3 := f3.blk b1 (by omega)
    have x0 := bY3.cell 0
    have x1 := bY3.cell 1
    have x2 := bY3.cell 2
    have x3 := bY3.cell 3
    have lx := bY3.lt
    have c0 := b3.cell 0
    have c1 := b3.cell 1
    have c2 := b3.cell 2
    have c3 := b3.cell 3
    have z0 := b3.frozen 0
    have z1 := b3.frozen 1
    have z2 := b3.frozen 2
    have z3 := b3.frozen 3
    have lz := b3.lt
    have gz : G w WZ := ((G.fr (R := fun _ => False) gw).t2 f3 (fun i hi e => by omega)).toG (fun _ _ h => h)
    clear bY bY2 b1 bP f2 f3 gw
    go_wp2_with fail
    have bE := (((b3.set_ 0 (.int .i64 T)).set_ 1 (.int .i64 C)).set_ 2 (.int .i64 L)).set_ 3 (.int .i64 0)
    simp only [List.setIfInBounds_toArray, List.set_cons_zero, List.set_cons_succ] at bE
    refine bodyPost_ret (res64 _ _ (w.heap.size + 1) _ _ _ _ rfl bE) rfl ?_
    exact ⟨rfl, (((gz.s (p := ⟨w.heap.size + 1, 0, none⟩) (Nat.le_succ _) _).s (p := ⟨w.heap.size + 1, 1, none⟩) (Nat.le_succ _) _).s (p := ⟨w.heap.size + 1, 2, none⟩) (Nat.le_succ _) _).s (p := ⟨w.heap.size + 1, 3, none⟩) (Nat.le_succ _) _⟩
  · go_simp
    refine hK8.out _ _ (gd.a _) (fun hS => ?_)
    clear hK8
    try simp only [Act.put, List.getElem_toArray, List.getElem_cons_zero, List.getElem_cons_succ, List.setIfInBounds_toArray, List.set_cons_zero, List.set_cons_succ]
    refine wpAnyY_oneSW (i := 4) (by kernel_rfl) rfl (by kernel_rfl) (fun K4 hK4 => ?_)
    go_simp
    refine (HNA.out _ (g2.t (gd.a _))).mono ?_
    rintro e w3 ⟨hG3, na, nc, rfl, hni⟩
    refine hK4.out _ _ ((gd.a _).t hG3) (fun hS => ?_)
    clear hK4 hni
    try simp only [Act.put, List.getElem_toArray, List.getElem_cons_zero, List.getElem_cons_succ, List.setIfInBounds_toArray, List.set_cons_zero, List.set_cons_succ]
    refine wpAnyY_take (i := 5) (v := ?_) rfl (by kernel_rfl) (by kernel_rfl) (by kernel_rfl) (by kernel_rfl) (fun _ _ _ h => h) (Or.inl ⟨by kernel_rfl, ?_⟩) hS ?_
    rotate_left
    · intro w' hSw; go_simp; with_reducible rfl
    try simp only [Act.put, List.getElem_toArray, List.getElem_cons_zero, List.getElem_cons_succ, List.setIfInBounds_toArray, List.set_cons_zero, List.set_cons_succ]
    refine wpAnyY_take (i := 6) (v := ?_) rfl (by kernel_rfl) (by kernel_rfl) (by kernel_rfl) (by kernel_rfl) (fun _ _ _ h => h) (Or.inl ⟨by kernel_rfl, ?_⟩) hS ?_
    rotate_left
    · intro w' hSw; go_simp; with_reducible rfl
    try simp only [Act.put, List.getElem_toArray, List.getElem_cons_zero, List.getElem_cons_succ, List.setIfInBounds_toArray, List.set_cons_zero, List.set_cons_succ]
    refine wpAnyY_take (i := 7) (v := ?_) rfl (by kernel_rfl) (by kernel_rfl) (by kernel_rfl) (by kernel_rfl) (fun _ _ _ h => h) (Or.inl ⟨by kernel_rfl, ?_⟩) hS ?_
    rotate_left
    · intro w' hSw; go_simp; with_reducible rfl
    try simp only [Act.put, List.getElem_toArray, List.getElem_cons_zero, List.getElem_cons_succ, List.setIfInBounds_toArray, List.set_cons_zero, List.set_cons_succ]
    have bX : Blk w3 W2.heap.size 33 #[.int .i64 0, .int .i64 0, .int .i64 0, .int .i64 0] := (Blk.new W2.drew 33 #[.int .i64 0, .int .i64 0, .int .i64 0, .int .i64 0]).keep hG3
    have c0 := bX.cell 0
    have c1 := bX.cell 1
    have c2 := bX.cell 2
    have c3 := bX.cell 3
    have z0 := bX.frozen 0
    have z1 := bX.frozen 1
    have z2 := bX.frozen 2
    have z3 := bX.frozen 3
    have lX := bX.lt
    refine wpAnyY_oneW (i := 9) (by kernel_rfl) rfl (by kernel_rfl) (by kernel_rfl) (fun K9 hK9 => ?_)
    go_simp
    refine hK9.out _ _ ?_
    clear hK9
    try simp only [Act.put, List.getElem_toArray, List.getElem_cons_zero, List.getElem_cons_succ, List.setIfInBounds_toArray, List.set_cons_zero, List.set_cons_succ]
    refine wpAnyY_done (by kernel_rfl) ?_ _
    clear hS c0 c1 c2 c3 z0 z1 z2 z3 lX
    have bY := (((bX.set_ 0 (.int .i64 T)).set_ 1 (.int .i64 0)).set_ 2 (.int .i64 0)).set_ 3 (.int .i64 0)
    simp only [List.setIfInBounds_toArray, List.set_cons_zero, List.set_cons_succ] at bY
    have gX := (((((gd.a (.cells #[.int .i64 0, .int .i64 0, .int .i64 0, .int .i64 0] 33)).t hG3).s (p := ⟨W2.heap.size, 0, none⟩) (Nat.le_refl _) (.int .i64 T)).s (p := ⟨W2.heap.size, 1, none⟩) (Nat.le_refl _) (.int .i64 0)).s (p := ⟨W2.heap.size, 2, none⟩) (Nat.le_refl _) (.int .i64 0)).s (p := ⟨W2.heap.size, 3, none⟩) (Nat.le_refl _) (.int .i64 0)
    have hge := Nat.le_refl W2.heap.size
    have bP := HBP.out.keep gX
    have b1 := HB1.out.keep gX
    have gw := g2.t gX
    generalize ((((w3.setCell ⟨W2.heap.size, 0, none⟩ (.int .i64 T)).setCell ⟨W2.heap.size, 1, none⟩ (.int .i64 0)).setCell ⟨W2.heap.size, 2, none⟩ (.int .i64 0)).setCell ⟨W2.heap.size, 3, none⟩ (.int .i64 0)) = WX at *
    have x0 := bY.cell 0
    have x1 := bY.cell 1
    have y1 := bY.frozen 1
    have lx := bY.lt
    have p1 := bP.cell 1
    have lp := bP.lt
    go_upto_region 4 with fail
    clear x0 x1 y1 lx p1 lp
    have bY2 := bY.set_ 1 (.int .i64 C)
    simp only [List.setIfInBounds_toArray, List.set_cons_zero, List.set_cons_succ] at bY2
    have f2 : Fr (fun i => i = W2.heap.size) WX (WX.setCell ⟨W2.heap.size, 1, none⟩ (.int .i64 C)) := (Fr.rf (fun i => i = W2.heap.size) WX).s (p := ⟨W2.heap.size, 1, none⟩) (.inl rfl) _
    generalize WX.setCell ⟨W2.heap.size, 1, none⟩ (.int .i64 C) = WY at *
    have x0 := bY2.cell 0
    have x1 := bY2.cell 1
    have x2 := bY2.cell 2
    have y2 := bY2.frozen 2
    have lx := bY2.lt
    go_upto_region 5 with fail
    clear x0 x1 x2 y2 lx
    have bY3 := bY2.set_ 2 (.int .i64 L)
    simp only [List.setIfInBounds_toArray, List.set_cons_zero, List.set_cons_succ] at bY3
    have f3 := f2.s (p := ⟨W2.heap.size, 2, none⟩) (.inl rfl) (.int .i64 L)
    generalize WY.setCell ⟨W2.heap.size, 2, none⟩ (.int .i64 L) = WZ at *
    have b3 := f3.blk b1 (by omega)
    have x0 := bY3.cell 0
    have x1 := bY3.cell 1
    have x2 := bY3.cell 2
    have x3 := bY3.cell 3
    have lx := bY3.lt
    have c0 := b3.cell 0
    have c1 := b3.cell 1
    have c2 := b3.cell 2
    have c3 := b3.cell 3
    have z0 := b3.frozen 0
    have z1 := b3.frozen 1
    have z2 := b3.frozen 2
    have z3 := b3.frozen 3
    have lz := b3.lt
    have gz : G w WZ := ((G.fr (R := fun _ => False) gw).t2 f3 (fun i hi e => by omega)).toG (fun _ _ h => h)
    clear bY bY2 b1 bP f2 f3 gw
    go_wp2_with fail
    have bE := (((b3.set_ 0 (.int .i64 T)).set_ 1 (.int .i64 C)).set_ 2 (.int .i64 L)).set_ 3 (.int .i64 0)
    simp only [List.setIfInBounds_toArray, List.set_cons_zero, List.set_cons_succ] at bE
    refine bodyPost_ret (res64 _ _ (w.heap.size + 1) _ _ _ _ rfl bE) rfl ?_
    exact ⟨rfl, (((gz.s (p := ⟨w.heap.size + 1, 0, none⟩) (Nat.le_succ _) _).s (p := ⟨w.heap.size + 1, 1, none⟩) (Nat.le_succ _) _).s (p := ⟨w.heap.size + 1, 2, none⟩) (Nat.le_succ _) _).s (p := ⟨w.heap.size + 1, 3, none⟩) (Nat.le_succ _) _⟩
end Go.Proofs.YtnkmcoljijmgpaaGreat

set_option linter.unusedSimpArgs false
set_option linter.unusedVariables false
namespace Go.Proofs.YtnkmcoljijmgpaaGreat
open Go.RowKit Go.Shelf Go.Sort Go.Maps
attribute [local go_sem] Oper.semAt_some
def IsPo (A : Array Value) : Prop := ∃ (x0 x1 x2 : Int) (x3 : Option Addr) (xl xc : Nat) (x4 : Int) (x5 : Bool), A = #[.int .i64 x0, .int .i64 x1, .int .i64 x2, .slice x3 xl xc, .int .i64 x4, .bool x5]
set_option maxRecDepth 100000 in
set_option maxHeartbeats 4000000 in
theorem store42 (W : World) (g : Nat) (d s : Operand) {OLD NEW : Array Value} (hO : IsPo OLD) (hR : IsPo NEW) (op : Oper) (ev : Operand → Value) (ho : op.op = .store 42 d s) (hv : ev d = .pointer (some ⟨g, 0, none⟩)) (hs : ev s = .agg NEW) (hB : Blk W g 42 OLD) :
    ∃ W2, (execOp ev op).run Tryz.prog W = .ok .skip W2 ∧ Blk W2 g 42 NEW ∧ (∀ b, b ≠ g → W2.heap[b]? = W.heap[b]?) ∧ ∀ w0 : World, w0.heap.size ≤ g → G w0 W → G w0 W2 := by
  obtain ⟨y0, y1, y2, y3, yl, yc, y4, y5, rfl⟩ := hO
  obtain ⟨x0, x1, x2, x3, xl, xc, x4, x5, rfl⟩ := hR
  have c0 : W.cell? ⟨g, 0, none⟩ = some (.int .i64 y0) := hB.cell 0
  have z0 := hB.frozen 0
  have c1 : W.cell? ⟨g, 1, none⟩ = some (.int .i64 y1) := hB.cell 1
  have z1 := hB.frozen 1
  have c2 : W.cell? ⟨g, 2, none⟩ = some (.int .i64 y2) := hB.cell 2
  have z2 := hB.frozen 2
  have c3 : W.cell? ⟨g, 3, none⟩ = some (.slice y3 yl yc) := hB.cell 3
  have z3 := hB.frozen 3
  have c4 : W.cell? ⟨g, 4, none⟩ = some (.int .i64 y4) := hB.cell 4
  have z4 := hB.frozen 4
  have c5 : W.cell? ⟨g, 5, none⟩ = some (.bool y5) := hB.cell 5
  have z5 := hB.frozen 5
  have lB := hB.lt
  refine ⟨((((((W).setCell ⟨g, 0, none⟩ (.int .i64 x0)).setCell ⟨g, 1, none⟩ (.int .i64 x1)).setCell ⟨g, 2, none⟩ (.int .i64 x2)).setCell ⟨g, 3, none⟩ (.slice x3 xl xc)).setCell ⟨g, 4, none⟩ (.int .i64 x4)).setCell ⟨g, 5, none⟩ (.bool x5), ?_, ?_, ?_, fun w0 hg hG => ((((((hG).s (p := ⟨g, 0, none⟩) hg (.int .i64 x0)).s (p := ⟨g, 1, none⟩) hg (.int .i64 x1)).s (p := ⟨g, 2, none⟩) hg (.int .i64 x2)).s (p := ⟨g, 3, none⟩) hg (.slice x3 xl xc)).s (p := ⟨g, 4, none⟩) hg (.int .i64 x4)).s (p := ⟨g, 5, none⟩) hg (.bool x5)⟩
  · clear hB
    unfold execOp
    simp only [ho, hv, hs]
    go_simp
  · have b := ((((((hB).set_ 0 (.int .i64 x0)).set_ 1 (.int .i64 x1)).set_ 2 (.int .i64 x2)).set_ 3 (.slice x3 xl xc)).set_ 4 (.int .i64 x4)).set_ 5 (.bool x5)
    simp only [List.setIfInBounds_toArray, List.set_cons_zero, List.set_cons_succ] at b
    exact b
  · exact far_trans (far_trans (far_trans (far_trans (far_trans (far_trans (fun _ _ => rfl) 0 (.int .i64 x0)) 1 (.int .i64 x1)) 2 (.int .i64 x2)) 3 (.slice x3 xl xc)) 4 (.int .i64 x4)) 5 (.bool x5)
theorem wp_store42 {o : Oper} {a : Act} {W : World} {K : Act → World → Prop} {Q : Exit → Act → World → Prop} (g : Nat) (d s : Operand) {OLD NEW : Array Value} (hO : IsPo OLD) (hR : IsPo NEW) (ho : o.op = .store 42 d s) (hv : a.eval d = .pointer (some ⟨g, 0, none⟩)) (hs : a.eval s = .agg NEW) (hB : Blk W g 42 OLD)
    (hk : ∀ W2, Blk W2 g 42 NEW → (∀ b, b ≠ g → W2.heap[b]? = W.heap[b]?) → (∀ w0 : World, w0.heap.size ≤ g → G w0 W → G w0 W2) → K (a.put o.dst undef) W2) : Oper.wp Tryz.prog o a W K Q := by
  obtain ⟨W2, h1, h2, h3, h4⟩ := store42 W g d s hO hR o a.eval ho hv hs hB
  unfold Oper.wp
  rw [h1]
  exact hk W2 h2 h3 h4
theorem field33 (a b c d : Int) (w : World) : (Instr.field 33 (.agg #[.int .i64 a, .int .i64 b, .int .i64 c, .int .i64 d]) 2).run Tryz.prog w = .ok (.int .i64 c) w := by
  kernel_rfl
attribute [local go_sem] field33
theorem joinL66 {M C : Nat → Option Addr → Nat → World → Prop} {P : Prop} (h : ∀ g a c W, C g a c W → M g a c W) (k : (∀ g a c W, C g a c W → M g a c W) → P) : P := k h
set_option maxRecDepth 100000 in
set_option maxHeartbeats 16000000 in
theorem places66_any (r : Ra) (j : Nat) (w : World) (h : r.At w) (hr : raceB r = true) (hj : j < r.pools.length) : Calls Tryz.prog 66 #[.agg r.v, .int .i64 (j : Nat)] w (IvPost w (placesL (fuOf r j none 0))) := by
  have hrv : r.v = #[.slice r.ra r.racers.length r.rc, .slice r.pa r.pools.length r.pc, .slice r.ta r.protests.length r.tc] := rfl
  have h12 := (uniq_of (race_parts hr)).1
  have hrl := runners_len r j
  have hnl : (namedL r j).length = (runners r j).length := by unfold namedL; rw [List.length_map]
  have HNA := Lib.hid (fun (W : World) (hW : G w W) => naQ0 r j (runners r j).length W (h.keep hW) hnl)
  have HPOT := Lib.hid (fun (W : World) (hW : G w W) => pot64_any r j W (h.keep hW) hr hj)
  have hin := inB_pool hj
  have hlb := left_bd (fu_bounds hr hin none 0)
  have hpo := (pool_of hr hin).2
  have hPA : poolAt r j = r.pools.getD j default := by unfold poolAt; rw [Int.toNat_natCast]
  have hPL : placesL (fuOf r j none 0) = (if (poolAt r j).kind = 1 then (poolAt r j).table.map (fun n => lefI (fuOf r j none 0) * n / 1000) else if (poolAt r j).kind = 2 then List.replicate ((((runners r j).length : Int) + (poolAt r j).quota - 1) / (poolAt r j).quota).toNat (lefI (fuOf r j none 0) / ((((runners r j).length : Int) + (poolAt r j).quota - 1) / (poolAt r j).quota)) else if (poolAt r j).kind = 3 then [lefI (fuOf r j none 0)] else []) := rfl
  have HPP : Hid (∀ w' v, w'.ownsRow w.heap.size 3 1 v (placesL (fuOf r j none 0)).length (iv (placesL (fuOf r j none 0))) → G w w' → IvPost w (placesL (fuOf r j none 0)) (.returned v) w') := fun w' v a b => ⟨v, rfl, a, b⟩
  generalize IvPost w (placesL (fuOf r j none 0)) = PP at *
  rw [hPL] at HPP
  rw [hPA] at HPP hpo
  have hta := h.ps.tables j hj
  obtain ⟨T, hT0⟩ : ∃ T, T = totI (fuOf r j none 0) := ⟨_, rfl⟩
  obtain ⟨C, hC0⟩ : ∃ C, C = kepI (fuOf r j none 0) := ⟨_, rfl⟩
  obtain ⟨L, hL0⟩ : ∃ L, L = lefI (fuOf r j none 0) := ⟨_, rfl⟩
  rw [← hT0, ← hC0, ← hL0] at HPOT
  rw [← hL0] at HPP hlb
  rcases h.ps.row with hx | ⟨gp, op, hpe, hgp, hcell⟩
  · omega
  have hcl := hcell j hj
  obtain ⟨⟨xs, xc, xk, xa, xd, xt, xq, xf⟩, hX⟩ : ∃ X, X = r.pools.getD j default := ⟨_, rfl⟩
  rw [← hX] at hcl HPP hpo hta
  dsimp only at HPP hta
  unfold Po.v at hcl
  unfold poolB at hpo
  simp only [Bool.and_eq_true] at hpo
  obtain ⟨_, _, hk⟩ := hpo
  unfold kindB at hk
  obtain ⟨n, hn⟩ : ∃ n, n = (runners r j).length := ⟨_, rfl⟩
  rw [← hn] at HNA HPP hrl
  have hn12 : n ≤ 12 := by omega
  rw [hrv]
  have q0 : w.cell? ⟨gp, op + j * 6, none⟩ = some (.int .i64 xs) := hcl 0 (by omega)
  have q1 : w.cell? ⟨gp, op + j * 6 + 1, none⟩ = some (.int .i64 xc) := hcl 1 (by omega)
  have q2 : w.cell? ⟨gp, op + j * 6 + 2, none⟩ = some (.int .i64 xk) := hcl 2 (by omega)
  have q3 : w.cell? ⟨gp, op + j * 6 + 3, none⟩ = some (.slice xa xt.length xd) := hcl 3 (by omega)
  have q4 : w.cell? ⟨gp, op + j * 6 + 4, none⟩ = some (.int .i64 xq) := hcl 4 (by omega)
  have q5 : w.cell? ⟨gp, op + j * 6 + 5, none⟩ = some (.bool xf) := hcl 5 (by omega)
  have hji : (j : Int) < r.pools.length := by omega
  have HPE := Lib.hid hpe
  obtain ⟨W1, hW1⟩ : ∃ W1, W1 = w.alloc (.cells #[.slice r.ra r.racers.length r.rc, .slice r.pa r.pools.length r.pc, .slice r.ta r.protests.length r.tc] 26) := ⟨_, rfl⟩
  have g1 : G w W1 := by rw [hW1]; exact (G.rf _).a _
  have B0 : Blk W1 w.heap.size 26 #[.slice r.ra r.racers.length r.rc, .slice r.pa r.pools.length r.pc, .slice r.ta r.protests.length r.tc] := by rw [hW1]; exact Blk.new _ _ _
  rw [hrv] at HPOT HNA
  clear hT0 hC0 hL0 hpe h hr hX hn hcl hcell hrv hnl hrl hPL hPA hin h12
  go_enter Tryz.func66, Tryz.ntmps66
  go_upto_region 1 with fail
  change Code.wp _ _ _ _ (w.alloc (.cells #[.slice r.ra r.racers.length r.rc, .slice r.pa r.pools.length r.pc, .slice r.ta r.protests.length r.tc] 26))
  rw [← hW1]
  clear hW1
  refine wp_region_Y (S := fun W' => G W1 W') 16 17 rfl (by kernel_rfl) (G.rf _).d (fun hS => ?_)
  have gd : G W1 W1.drew := (G.rf _).d
  generalize W1.drew = WD at *
  refine wpAnyY_take (i := 0) (v := ?_) rfl (by kernel_rfl) (by kernel_rfl) (by kernel_rfl) (by kernel_rfl) (fun _ _ _ h => h) (Or.inl ⟨by kernel_rfl, ?_⟩) hS ?_
  rotate_left
  · intro w' hSw; go_simp; with_reducible rfl
  try simp only [Act.put, List.getElem_toArray, List.getElem_cons_zero, List.getElem_cons_succ, List.setIfInBounds_toArray, List.set_cons_zero, List.set_cons_succ]
  refine wpAnyY_take (i := 1) (v := ?_) rfl (by kernel_rfl) (by kernel_rfl) (by kernel_rfl) (by kernel_rfl) (fun _ _ _ h => h) (Or.inl ⟨by kernel_rfl, ?_⟩) hS ?_
  rotate_left
  · intro w' hSw; have s1 := (B0.keep hSw).cell 1; rw [HPE.out] at s1; have s3 := (B0.keep hSw).lt; go_simp; with_reducible rfl
  try simp only [Act.put, List.getElem_toArray, List.getElem_cons_zero, List.getElem_cons_succ, List.setIfInBounds_toArray, List.set_cons_zero, List.set_cons_succ]
  refine wpAnyY_take (i := 2) (v := ?_) rfl (by kernel_rfl) (by kernel_rfl) (by kernel_rfl) (by kernel_rfl) (fun _ _ _ h => h) (Or.inl ⟨by kernel_rfl, ?_⟩) hS ?_
  rotate_left
  · intro w' hSw; go_simp; with_reducible rfl
  try simp only [Act.put, List.getElem_toArray, List.getElem_cons_zero, List.getElem_cons_succ, List.setIfInBounds_toArray, List.set_cons_zero, List.set_cons_succ]
  refine wpAnyY_take (i := 3) (v := ?_) rfl (by kernel_rfl) (by kernel_rfl) (by kernel_rfl) (by kernel_rfl) (fun _ _ _ h => h) (Or.inl ⟨by kernel_rfl, ?_⟩) hS ?_
  rotate_left
  · intro w' hSw; go_simp; with_reducible rfl
  try simp only [Act.put, List.getElem_toArray, List.getElem_cons_zero, List.getElem_cons_succ, List.setIfInBounds_toArray, List.set_cons_zero, List.set_cons_succ]
  refine wpAnyY_take (i := 4) (v := ?_) rfl (by kernel_rfl) (by kernel_rfl) (by kernel_rfl) (by kernel_rfl) (fun _ _ _ h => h) (Or.inl ⟨by kernel_rfl, ?_⟩) hS ?_
  rotate_left
  · intro w' hSw; have e := fun q => (bcellB (g1.t hSw)).1 gp q hgp; have s0 := (e _).trans q0; have s1 := (e _).trans q1; have s2 := (e _).trans q2; have s3 := (e _).trans q3; have s4 := (e _).trans q4; have s5 := (e _).trans q5; have s6 : gp < w'.heap.size := Nat.lt_of_lt_of_le hgp (g1.t hSw).size; clear e; go_simp; with_reducible rfl
  try simp only [Act.put, List.getElem_toArray, List.getElem_cons_zero, List.getElem_cons_succ, List.setIfInBounds_toArray, List.set_cons_zero, List.set_cons_succ]
  refine wpAnyY_take (i := 5) (v := ?_) rfl (by kernel_rfl) (by kernel_rfl) (by kernel_rfl) (by kernel_rfl) (fun _ _ _ h => h) (Or.inl ⟨by kernel_rfl, ?_⟩) hS ?_
  rotate_left
  · intro w' hSw; have s0 := (B0.keep hSw).cell 0; have s1 := (B0.keep hSw).cell 1; have s2 := (B0.keep hSw).cell 2; have s3 := (B0.keep hSw).lt; go_simp; with_reducible rfl
  try simp only [Act.put, List.getElem_toArray, List.getElem_cons_zero, List.getElem_cons_succ, List.setIfInBounds_toArray, List.set_cons_zero, List.set_cons_succ]
  refine wpAnyY_take (i := 6) (v := ?_) rfl (by kernel_rfl) (by kernel_rfl) (by kernel_rfl) (by kernel_rfl) (fun _ _ _ h => h) (Or.inl ⟨by kernel_rfl, ?_⟩) hS ?_
  rotate_left
  · intro w' hSw; go_simp; with_reducible rfl
  try simp only [Act.put, List.getElem_toArray, List.getElem_cons_zero, List.getElem_cons_succ, List.setIfInBounds_toArray, List.set_cons_zero, List.set_cons_succ]
  refine wpAnyY_take (i := 9) (v := ?_) rfl (by kernel_rfl) (by kernel_rfl) (by kernel_rfl) (by kernel_rfl) (fun _ _ _ h => h) (Or.inl ⟨by kernel_rfl, ?_⟩) hS ?_
  rotate_left
  · intro w' hSw; have s0 := (B0.keep hSw).cell 0; have s1 := (B0.keep hSw).cell 1; have s2 := (B0.keep hSw).cell 2; have s3 := (B0.keep hSw).lt; go_simp; with_reducible rfl
  try simp only [Act.put, List.getElem_toArray, List.getElem_cons_zero, List.getElem_cons_succ, List.setIfInBounds_toArray, List.set_cons_zero, List.set_cons_succ]
  refine wpAnyY_take (i := 10) (v := ?_) rfl (by kernel_rfl) (by kernel_rfl) (by kernel_rfl) (by kernel_rfl) (fun _ _ _ h => h) (Or.inl ⟨by kernel_rfl, ?_⟩) hS ?_
  rotate_left
  · intro w' hSw; go_simp; with_reducible rfl
  try simp only [Act.put, List.getElem_toArray, List.getElem_cons_zero, List.getElem_cons_succ, List.setIfInBounds_toArray, List.set_cons_zero, List.set_cons_succ]
  apply joinL66 (C := fun GX _ _ W => W1.heap.size ≤ GX ∧ Blk W GX 42 #[.int .i64 0, .int .i64 0, .int .i64 0, .slice none 0 0, .int .i64 0, .bool false] ∧ G W1 W)
  rotate_left
  · intro HJ
    refine wpAnyY_twoSW (i := 7) (j := 13) (by kernel_rfl) rfl rfl (by kernel_rfl) (by kernel_rfl) (fun K7 hK7 => ?_) (fun K13 hK13 => ?_)
    · go_simp
      refine (HPOT.out _ (g1.t gd)).mono ?_
      rintro e w3 ⟨rfl, hG3⟩
      replace gd := gd.t hG3
      refine hK7.out _ _ gd (fun hS => ?_)
      clear hK7
      try simp only [Act.put, List.getElem_toArray, List.getElem_cons_zero, List.getElem_cons_succ, List.setIfInBounds_toArray, List.set_cons_zero, List.set_cons_succ]
      refine wpAnyY_take (i := 8) (v := ?_) rfl (by kernel_rfl) (by kernel_rfl) (by kernel_rfl) (by kernel_rfl) (fun _ _ _ h => h) (Or.inl ⟨by kernel_rfl, ?_⟩) hS ?_
      rotate_left
      · intro w' hSw; go_simp; with_reducible rfl
      try simp only [Act.put, List.getElem_toArray, List.getElem_cons_zero, List.getElem_cons_succ, List.setIfInBounds_toArray, List.set_cons_zero, List.set_cons_succ]
      refine wpAnyY_twoSW (i := 11) (j := 13) (by kernel_rfl) rfl rfl (by kernel_rfl) (by kernel_rfl) (fun K11 hK11 => ?_) (fun K13 hK13 => ?_)
      · go_simp
        refine (HNA.out _ (g1.t gd)).mono ?_
        rintro e w4 ⟨hG4, na, nc, rfl, hni⟩
        replace gd := gd.t hG4
        refine hK11.out _ _ gd (fun hS => ?_)
        clear hK11 hni
        try simp only [Act.put, List.getElem_toArray, List.getElem_cons_zero, List.getElem_cons_succ, List.setIfInBounds_toArray, List.set_cons_zero, List.set_cons_succ]
        refine wpAnyY_take (i := 12) (v := ?_) rfl (by kernel_rfl) (by kernel_rfl) (by kernel_rfl) (by kernel_rfl) (fun _ _ _ h => h) (Or.inl ⟨by kernel_rfl, ?_⟩) hS ?_
        rotate_left
        · intro w' hSw; go_simp; with_reducible rfl
        try simp only [Act.put, List.getElem_toArray, List.getElem_cons_zero, List.getElem_cons_succ, List.setIfInBounds_toArray, List.set_cons_zero, List.set_cons_succ]
        refine wpAnyY_oneSW (i := 13) (by kernel_rfl) rfl (by kernel_rfl) (fun K13 hK13 => ?_)
        go_simp
        have gE := gd.a (.cells #[.int .i64 0, .int .i64 0, .int .i64 0, .slice none 0 0, .int .i64 0, .bool false] 42)
        refine hK13.out _ _ gE (fun hS => ?_)
        clear hK13
        try simp only [Act.put, List.getElem_toArray, List.getElem_cons_zero, List.getElem_cons_succ, List.setIfInBounds_toArray, List.set_cons_zero, List.set_cons_succ]
        have bX := Blk.new w4 42 #[.int .i64 0, .int .i64 0, .int .i64 0, .slice none 0 0, .int .i64 0, .bool false]
        have lX := gd.size
        obtain ⟨GX, hGX⟩ : ∃ GX, GX = w4.heap.size := ⟨_, rfl⟩
        rw [← hGX] at bX lX ⊢
        clear hGX
        generalize w4.alloc (.cells #[.int .i64 0, .int .i64 0, .int .i64 0, .slice none 0 0, .int .i64 0, .bool false] 42) = WE at *
        exact HJ GX na nc WE ⟨lX, bX, gE⟩
      · go_simp
        have gE := gd.a (.cells #[.int .i64 0, .int .i64 0, .int .i64 0, .slice none 0 0, .int .i64 0, .bool false] 42)
        refine hK13.out _ _ gE (fun hS => ?_)
        clear hK13
        try simp only [Act.put, List.getElem_toArray, List.getElem_cons_zero, List.getElem_cons_succ, List.setIfInBounds_toArray, List.set_cons_zero, List.set_cons_succ]
        have bX := Blk.new w3 42 #[.int .i64 0, .int .i64 0, .int .i64 0, .slice none 0 0, .int .i64 0, .bool false]
        have lX := gd.size
        obtain ⟨GX, hGX⟩ : ∃ GX, GX = w3.heap.size := ⟨_, rfl⟩
        rw [← hGX] at bX lX ⊢
        clear hGX
        generalize w3.alloc (.cells #[.int .i64 0, .int .i64 0, .int .i64 0, .slice none 0 0, .int .i64 0, .bool false] 42) = WE at *
        refine wpAnyY_oneSW (i := 11) (by kernel_rfl) rfl (by kernel_rfl) (fun K11 hK11 => ?_)
        go_simp
        refine (HNA.out _ (g1.t gE)).mono ?_
        rintro e w4 ⟨hG4, na, nc, rfl, hni⟩
        replace gE := gE.t hG4
        refine hK11.out _ _ gE (fun hS => ?_)
        clear hK11 hni
        try simp only [Act.put, List.getElem_toArray, List.getElem_cons_zero, List.getElem_cons_succ, List.setIfInBounds_toArray, List.set_cons_zero, List.set_cons_succ]
        refine wpAnyY_take (i := 12) (v := ?_) rfl (by kernel_rfl) (by kernel_rfl) (by kernel_rfl) (by kernel_rfl) (fun _ _ _ h => h) (Or.inl ⟨by kernel_rfl, ?_⟩) hS ?_
        rotate_left
        · intro w' hSw; go_simp; with_reducible rfl
        try simp only [Act.put, List.getElem_toArray, List.getElem_cons_zero, List.getElem_cons_succ, List.setIfInBounds_toArray, List.set_cons_zero, List.set_cons_succ]
        exact HJ GX na nc w4 ⟨lX, bX.keep hG4, gE⟩
    · go_simp
      have gE := gd.a (.cells #[.int .i64 0, .int .i64 0, .int .i64 0, .slice none 0 0, .int .i64 0, .bool false] 42)
      refine hK13.out _ _ gE (fun hS => ?_)
      clear hK13
      try simp only [Act.put, List.getElem_toArray, List.getElem_cons_zero, List.getElem_cons_succ, List.setIfInBounds_toArray, List.set_cons_zero, List.set_cons_succ]
      have bX := Blk.new WD 42 #[.int .i64 0, .int .i64 0, .int .i64 0, .slice none 0 0, .int .i64 0, .bool false]
      have lX := gd.size
      obtain ⟨GX, hGX⟩ : ∃ GX, GX = WD.heap.size := ⟨_, rfl⟩
      rw [← hGX] at bX lX ⊢
      clear hGX
      generalize WD.alloc (.cells #[.int .i64 0, .int .i64 0, .int .i64 0, .slice none 0 0, .int .i64 0, .bool false] 42) = WE at *
      refine wpAnyY_oneSW (i := 7) (by kernel_rfl) rfl (by kernel_rfl) (fun K7 hK7 => ?_)
      go_simp
      refine (HPOT.out _ (g1.t gE)).mono ?_
      rintro e w3 ⟨rfl, hG3⟩
      replace gE := gE.t hG3
      refine hK7.out _ _ gE (fun hS => ?_)
      clear hK7
      try simp only [Act.put, List.getElem_toArray, List.getElem_cons_zero, List.getElem_cons_succ, List.setIfInBounds_toArray, List.set_cons_zero, List.set_cons_succ]
      refine wpAnyY_take (i := 8) (v := ?_) rfl (by kernel_rfl) (by kernel_rfl) (by kernel_rfl) (by kernel_rfl) (fun _ _ _ h => h) (Or.inl ⟨by kernel_rfl, ?_⟩) hS ?_
      rotate_left
      · intro w' hSw; go_simp; with_reducible rfl
      try simp only [Act.put, List.getElem_toArray, List.getElem_cons_zero, List.getElem_cons_succ, List.setIfInBounds_toArray, List.set_cons_zero, List.set_cons_succ]
      refine wpAnyY_oneSW (i := 11) (by kernel_rfl) rfl (by kernel_rfl) (fun K11 hK11 => ?_)
      go_simp
      refine (HNA.out _ (g1.t gE)).mono ?_
      rintro e w4 ⟨hG4, na, nc, rfl, hni⟩
      replace gE := gE.t hG4
      refine hK11.out _ _ gE (fun hS => ?_)
      clear hK11 hni
      try simp only [Act.put, List.getElem_toArray, List.getElem_cons_zero, List.getElem_cons_succ, List.setIfInBounds_toArray, List.set_cons_zero, List.set_cons_succ]
      refine wpAnyY_take (i := 12) (v := ?_) rfl (by kernel_rfl) (by kernel_rfl) (by kernel_rfl) (by kernel_rfl) (fun _ _ _ h => h) (Or.inl ⟨by kernel_rfl, ?_⟩) hS ?_
      rotate_left
      · intro w' hSw; go_simp; with_reducible rfl
      try simp only [Act.put, List.getElem_toArray, List.getElem_cons_zero, List.getElem_cons_succ, List.setIfInBounds_toArray, List.set_cons_zero, List.set_cons_succ]
      exact HJ GX na nc w4 ⟨lX, (bX.keep hG3).keep hG4, gE⟩
  intro GX na nc W2 hJ
  obtain ⟨hGX, bX, gz⟩ := hJ
  clear hS HPOT HNA gd
  refine wpAnyY_oneSW (i := 14) (by kernel_rfl) rfl (by kernel_rfl) (fun K14 hK14 => ?_)
  refine wp_store42 GX (.tmp 5) (.tmp 16) (OLD := #[.int .i64 0, .int .i64 0, .int .i64 0, .slice none 0 0, .int .i64 0, .bool false]) (NEW := #[.int .i64 xs, .int .i64 xc, .int .i64 xk, .slice xa xt.length xd, .int .i64 xq, .bool xf]) ⟨_, _, _, _, _, _, _, _, rfl⟩ ⟨_, _, _, _, _, _, _, _, rfl⟩ rfl rfl rfl bX (fun WX bP hFX hGGX => ?_)
  refine hK14.out _ _ (hGGX W1 hGX gz) (fun hS => ?_)
  clear hK14
  try simp only [Act.put, List.getElem_toArray, List.getElem_cons_zero, List.getElem_cons_succ, List.setIfInBounds_toArray, List.set_cons_zero, List.set_cons_succ]
  have gX : G w WX := g1.t hS
  have hgw : w.heap.size ≤ GX := Nat.le_trans g1.size hGX
  refine wpAnyY_oneSW (i := 15) (by kernel_rfl) rfl (by kernel_rfl) (fun K15 hK15 => ?_)
  go_simp
  refine hK15.out _ _ hS (fun _ => ?_)
  clear hK15 hS hFX hGGX bX gz hGX
  try simp only [Act.put, List.getElem_toArray, List.getElem_cons_zero, List.getElem_cons_succ, List.setIfInBounds_toArray, List.set_cons_zero, List.set_cons_succ]
  refine wpAnyY_oneW (i := 16) (by kernel_rfl) rfl (by kernel_rfl) (by kernel_rfl) (fun K16 hK16 => ?_)
  go_simp
  refine hK16.out _ _ ?_
  clear hK16
  try simp only [Act.put, List.getElem_toArray, List.getElem_cons_zero, List.getElem_cons_succ, List.setIfInBounds_toArray, List.set_cons_zero, List.set_cons_succ]
  refine wpAnyY_done (by kernel_rfl) ?_ _
  have HTA := Lib.hid (fun (W : World) (hW : G w W) => hta.below hW)
  have m2 := bP.cell 2
  have l0 := bP.lt
  clear q0 q1 q2 q3 q4 q5 hgp hta g1 B0 HPE
  obtain ⟨i0, hi0, hz0, hz1, hz2⟩ := info_parts info3
  by_cases k1 : xk = 1
  · subst k1
    rw [if_pos rfl] at hk HPP
    simp only [Bool.and_eq_true, decide_eq_true_eq] at hk
    have htb := hk.1
    unfold tableB at htb
    simp only [Bool.and_eq_true, decide_eq_true_eq] at htb
    obtain ⟨ht8, htc, _⟩ := htb
    unfold isInB at ht8
    simp only [Bool.and_eq_true, decide_eq_true_eq] at ht8
    have HTC : Hid (∀ i, i < xt.length → 0 ≤ xt.getD i 0 ∧ xt.getD i 0 ≤ 1000) := fun i hi => by
      have := allU_iff.1 htc i hi
      unfold isInB at this
      simp only [Bool.and_eq_true, decide_eq_true_eq] at this
      exact this
    clear hk htc
    go_wp2_with fail
    clear m2 l0
    go_loopw [8, 9] (fun v i wr => ∃ k : Nat, k ≤ xt.length ∧ i = .int .i64 k ∧ Hid (wr.ownsRow WX.heap.size 3 1 v k (iv ((xt.take k).map (fun n => L * n / 1000)))) ∧ Hid (G WX wr)) (fun _ i _ => xt.length - (intOf i).toNat)
    case atStart => exact ⟨0, Nat.zero_le _, rfl, World.ownsRow_nil _ _ _ _, G.rf _⟩
    case round =>
      obtain ⟨k, hk, rfl, HO, HG⟩ := hrel
      obtain ⟨wo, rfl⟩ : ∃ wo, wo = wr := ⟨_, rfl⟩
      have m3 := (bP.keep HG.out).cell 3
      have l0 := (bP.keep HG.out).lt
      by_cases hlt : k < xt.length
      · have hki : (k : Int) < xt.length := by omega
        rcases HTA.out _ (gX.t HG.out) with rfl | ⟨g, off, rfl, hg, hcell⟩
        · simp at hlt
        have q0 := hcell k hlt
        have hy01 := HTC.out k hlt
        have HSN := Lib.hid (take_snoc hlt (fun n => L * n / 1000))
        obtain ⟨y, hy⟩ : ∃ y, y = xt.getD k 0 := ⟨_, rfl⟩
        rw [← hy] at q0 hy01 HSN
        clear hy hcell
        have hpr : 0 ≤ L * y ∧ L * y ≤ L * 1000 := ⟨Int.mul_nonneg hlb.1 hy01.1, Int.mul_le_mul_of_nonneg_left hy01.2 hlb.1⟩
        have x1 : IntKind.i64.wrap (L * y) = L * y := IntWalk.i64_in _ (by omega)
        have x2 : (L * y).tdiv 1000 = L * y / 1000 := Int.tdiv_eq_ediv_of_nonneg hpr.1
        have x3 : IntKind.i64.wrap (L * y / 1000) = L * y / 1000 := IntWalk.i64_in _ (by omega)
        obtain ⟨T, hT⟩ : ∃ T, T = (xt.take k).map (fun n => L * n / 1000) := ⟨_, rfl⟩
        have hTl : T.length = k := by rw [hT, List.length_map, List.length_take]; omega
        rw [← hT] at HO HSN
        clear hT hpr
        obtain rfl := hTl.symm
        go_wp2_with (at_builtin; refine wpList_append_own _ rfl _ _ 24 rfl WX.heap.size 3 i0 (.int .i64 0) 1 8 Tryz.underlying24 hi0 hz0 hz1 hz2 rfl (by decide) _ T.length (iv T) rfl ?hown ⟨_, 0, none⟩ 1 1 [.int .i64 (L * y / 1000)] rfl rfl (cell_one_new _ _ _) (by simp [Value.oneCell']) (by unfold maxLen; omega) (by omega) ?hbase ?hrest)
        case hown => exact own_G HO.out ((G.rf _).a _)
        case hbase => have := HG.out.size; omega
        case hrest =>
          intro v9 w9 hown9 hg9 _
          have gz : G WX w9 := grow_own (HG.out.a _) (own_G HO.out ((G.rf _).a _)) (Nat.le_refl _) hg9
          have HN := Lib.hid hown9
          clear hown9 hg9
          go_wp2
          go_roundw
          case rel => exact ⟨T.length + 1, by omega, by go_num, by rw [HSN.out, iv_snoc]; exact HN.out, gz⟩
          case measure => simp [intOf] <;> omega
      · obtain rfl : k = xt.length := by omega
        have hki : ¬ ((xt.length : Nat) : Int) < xt.length := by omega
        rw [List.take_length] at HO
        have hlen : (xt.map (fun n => L * n / 1000)).length = xt.length := List.length_map _
        have HF := Lib.hid (fun v (ho : wo.ownsRow WX.heap.size 3 1 v xt.length (iv (xt.map (fun n => L * n / 1000)))) => HPP.out wo v (by rw [hlen]; exact own_weaken ho gX.size) (gX.t HG.out))
        clear HPP hlen
        go_wp2_with fail
        first | exact HF.out _ HO.out | (go_ret; exact HF.out _ HO.out)
  · by_cases k2 : xk = 2
    · subst k2
      rw [if_neg k1, if_pos rfl] at hk HPP
      simp only [Bool.and_eq_true, decide_eq_true_eq] at hk
      have hq := hk.2
      clear hk
      unfold isInB at hq
      simp only [Bool.and_eq_true, decide_eq_true_eq] at hq
      obtain ⟨Q, hQ⟩ : ∃ Q : Nat, xq = Q := ⟨xq.toNat, by omega⟩
      subst hQ
      obtain ⟨M, hM⟩ : ∃ M : Nat, M = (n + Q - 1) / Q := ⟨_, rfl⟩
      have hMi : ((n : Int) + Q - 1) / Q = (M : Nat) := by
        rw [hM]
        rw [show (n : Int) + Q - 1 = ((n + Q - 1 : Nat) : Int) by omega]
        exact (Int.natCast_ediv _ _).symm
      have hMb : M ≤ 1000 := by
        rw [hM]
        exact Nat.le_trans (Nat.div_le_self _ _) (by omega)
      rw [hMi] at HPP
      have y1 : IntKind.i64.wrap ((n : Int) + Q) = (n : Int) + Q := IntWalk.i64_in _ (by omega)
      have y2 : IntKind.i64.wrap ((n : Int) + Q - 1) = (n : Int) + Q - 1 := IntWalk.i64_in _ (by omega)
      have y3 : ((n : Int) + Q - 1).tdiv Q = (M : Nat) := by rw [Int.tdiv_eq_ediv_of_nonneg (by omega)]; exact hMi
      have y4 : IntKind.i64.wrap ((M : Nat) : Int) = (M : Nat) := IntWalk.i64_in _ (by omega)
      have qz : ((Q : Int) == 0) = false := by simp; omega
      have qz2 : ¬ Q = 0 := by omega
      clear hMi hM
      have m4 := bP.cell 4
      go_wp2_with fail
      clear m2 m4 l0 y1 y2 y3 y4
      go_loopw [8, 11] (fun v i wr => ∃ k : Nat, k ≤ M ∧ i = .int .i64 k ∧ Hid (wr.ownsRow WX.heap.size 3 1 v k (iv (List.replicate k (L / (M : Nat))))) ∧ Hid (G WX wr)) (fun _ i _ => M - (intOf i).toNat)
      case atStart => exact ⟨0, Nat.zero_le _, rfl, World.ownsRow_nil _ _ _ _, G.rf _⟩
      case round =>
        obtain ⟨k, hk, rfl, HO, HG⟩ := hrel
        obtain ⟨wo, rfl⟩ : ∃ wo, wo = wr := ⟨_, rfl⟩
        by_cases hlt : k < M
        · have hki : (k : Int) < M := by omega
          have mz : ((M : Int) == 0) = false := by simp; omega
          have mz2 : ¬ M = 0 := by omega
          have x1 : L.tdiv (M : Nat) = L / (M : Nat) := Int.tdiv_eq_ediv_of_nonneg hlb.1
          have hb2 : 0 ≤ L / (M : Nat) ∧ L / ((M : Nat) : Int) ≤ L := ⟨Int.ediv_nonneg hlb.1 (by omega), Int.ediv_le_self _ hlb.1⟩
          have x2 : IntKind.i64.wrap (L / (M : Nat)) = L / (M : Nat) := IntWalk.i64_in _ (by omega)
          have HSN := Lib.hid (rep_snoc k (L / (M : Nat)))
          obtain ⟨z, hz⟩ : ∃ z, z = L / ((M : Nat) : Int) := ⟨_, rfl⟩
          have HZ := Lib.hid hz
          rw [← hz] at x1 x2 HSN HO
          clear hb2 hz
          obtain ⟨T, hT⟩ : ∃ T, T = List.replicate k z := ⟨_, rfl⟩
          have hTl : T.length = k := by rw [hT, List.length_replicate]
          rw [← hT] at HO HSN
          clear hT
          obtain rfl := hTl.symm
          go_wp2_with (at_builtin; refine wpList_append_own _ rfl _ _ 24 rfl WX.heap.size 3 i0 (.int .i64 0) 1 8 Tryz.underlying24 hi0 hz0 hz1 hz2 rfl (by decide) _ T.length (iv T) rfl ?hown ⟨_, 0, none⟩ 1 1 [.int .i64 z] rfl rfl (cell_one_new _ _ _) (by simp [Value.oneCell']) (by unfold maxLen; omega) (by omega) ?hbase ?hrest)
          case hown => exact own_G HO.out ((G.rf _).a _)
          case hbase => have := HG.out.size; omega
          case hrest =>
            intro v9 w9 hown9 hg9 _
            have gz : G WX w9 := grow_own (HG.out.a _) (own_G HO.out ((G.rf _).a _)) (Nat.le_refl _) hg9
            have HN := Lib.hid hown9
            clear hown9 hg9
            go_wp2
            go_roundw
            case rel => exact ⟨T.length + 1, by omega, by go_num, by rw [← HZ.out, HSN.out, iv_snoc]; exact HN.out, gz⟩
            case measure => simp [intOf] <;> omega
        · obtain rfl : k = M := by omega
          have hki : ¬ ((k : Nat) : Int) < k := by omega
          have hlen : (List.replicate k (L / ((k : Nat) : Int))).length = k := List.length_replicate
          have HF := Lib.hid (fun v (ho : wo.ownsRow WX.heap.size 3 1 v k (iv (List.replicate k (L / ((k : Nat) : Int))))) => HPP.out wo v (by rw [Int.toNat_natCast, hlen]; exact own_weaken ho gX.size) (gX.t HG.out))
          clear HPP hlen
          go_wp2_with fail
          first | exact HF.out _ HO.out | (go_ret; exact HF.out _ HO.out)
    · by_cases k3 : xk = 3
      · subst k3
        rw [if_neg k1, if_neg k2, if_pos rfl] at HPP
        clear hk
        have e1 : ((3 : Int) == 1) = false := by decide
        go_wp2_with fail
        have gz : G w (WX.alloc (.cells #[.int .i64 L] 3)) := gX.a _
        have ho := own_weaken (own_one (Blk.new WX 3 #[.int .i64 L])) gX.size
        first | exact HPP.out _ _ ho gz | (go_ret; exact HPP.out _ _ ho gz)
      · rw [if_neg k1, if_neg k2, if_neg k3] at hk
        cases hk
end Go.Proofs.YtnkmcoljijmgpaaGreat

set_option linter.unusedSimpArgs false
set_option linter.unusedVariables false
namespace Go.Proofs.YtnkmcoljijmgpaaGreat
open Go.RowKit Go.Shelf Go.Sort Go.Maps
attribute [local go_sem] Oper.semAt_some
/-- how many birds stand in the first j groups -/
def nxt (gs : List (List Int)) : Nat → Nat
  | 0 => 0
  | j + 1 => nxt gs j + (gs.getD j []).length
theorem drop_min {α : Type} (l : List α) (n : Nat) : l.drop (min n l.length) = l.drop n := by
  by_cases h : n ≤ l.length
  · rw [Nat.min_eq_left h]
  · rw [Nat.min_eq_right (by omega), List.drop_length, List.drop_eq_nil_of_le (by omega)]
theorem take_min {α : Type} (l : List α) (n : Nat) : l.take (min n l.length) = l.take n := by
  by_cases h : n ≤ l.length
  · rw [Nat.min_eq_left h]
  · rw [Nat.min_eq_right (by omega), List.take_length, List.take_of_length_le (by omega)]
theorem wst_drop (PL : List Int) (GS : List (List Int)) : ∀ j, (wst PL GS j).1 = PL.drop (nxt GS j)
  | 0 => by simp [wst, nxt]
  | j + 1 => by
    show (wst PL GS j).1.drop _ = _
    rw [drop_min, wst_drop PL GS j, List.drop_drop]
    rfl
/-- what the places from the t-th on give i birds -/
def sumP (PL : List Int) (t i : Nat) : Int := ((PL.drop t).take i).sum
theorem sumP_succ (PL : List Int) (t i : Nat) : sumP PL t (i + 1) = sumP PL t i + if t + i < PL.length then PL.getD (t + i) 0 else 0 := by
  unfold sumP
  by_cases h : t + i < PL.length
  · rw [if_pos h, List.take_add_one, List.sum_append, List.getElem?_drop, List.getElem?_eq_getElem h, List.getD_eq_getElem?_getD, List.getElem?_eq_getElem h]
    simp
  · rw [if_neg h, List.take_of_length_le (by rw [List.length_drop]; omega), List.take_of_length_le (by rw [List.length_drop]; omega)]
    omega
theorem sumP_zero (PL : List Int) (t : Nat) : sumP PL t 0 = 0 := by simp [sumP]
theorem gWon_sumP (PL : List Int) (GS : List (List Int)) (j : Nat) {i : Nat} (h : i < (GS.getD j []).length) : (gWon (wst PL GS j).1 (GS.getD j [])).take (i + 1) = (gWon (wst PL GS j).1 (GS.getD j [])).take i ++ [((GS.getD j []).getD i 0, shareI (sumP PL (nxt GS j) (GS.getD j []).length) (GS.getD j []).length i)] := by
  rw [gWon_take _ _ h, take_min, wst_drop]
  rfl
theorem wonAt_new {ps : List (Int × Int)} {b c : Int} (h : (ps.any fun p => p.1 == b) = false) : wonAt (ps ++ [(b, c)]) b = c := by
  unfold wonAt
  have e : ps.find? (fun p => p.1 == b) = none := by
    rw [List.find?_eq_none]
    intro x hx
    rw [List.any_eq_false] at h
    exact h x hx
  rw [List.find?_append, e]
  simp
/-- what was won behind j groups and the first i birds of the next one -/
def accP (PL : List Int) (GS : List (List Int)) (j i : Nat) : List (Int × Int) := (wst PL GS j).2 ++ (gWon (wst PL GS j).1 (GS.getD j [])).take i
theorem accP_zero (PL : List Int) (GS : List (List Int)) (j : Nat) : accP PL GS j 0 = (wst PL GS j).2 := by simp [accP]
theorem accP_all (PL : List Int) (GS : List (List Int)) (j : Nat) : accP PL GS j (GS.getD j []).length = (wst PL GS (j + 1)).2 := by
  unfold accP
  rw [List.take_of_length_le (by rw [gWon_len]; exact Nat.le_refl _)]
  rfl
theorem accP_succ (PL : List Int) (GS : List (List Int)) (j : Nat) {i : Nat} (h : i < (GS.getD j []).length) : accP PL GS j (i + 1) = accP PL GS j i ++ [((GS.getD j []).getD i 0, shareI (sumP PL (nxt GS j) (GS.getD j []).length) (GS.getD j []).length i)] := by
  unfold accP
  rw [gWon_sumP PL GS j h, List.append_assoc]
/-- the prizes of birds, the first k of them as in A, the others as in B -/
def olF (rs : List Rc) (A B : List (Int × Int)) (k : Nat) : List Pz := (List.range rs.length).map fun m => ⟨(rs.getD m default).bird, wonAt (if m < k then A else B) (rs.getD m default).bird, 0⟩
theorem olF_len (rs : List Rc) (A B : List (Int × Int)) (k : Nat) : (olF rs A B k).length = rs.length := by simp [olF]
theorem olF_get (rs : List Rc) (A B : List (Int × Int)) (k : Nat) {m : Nat} (h : m < rs.length) : (olF rs A B k).getD m default = ⟨(rs.getD m default).bird, wonAt (if m < k then A else B) (rs.getD m default).bird, 0⟩ := by
  unfold olF
  rw [List.getD_eq_getElem?_getD, List.getElem?_map, List.getElem?_range h]
  rfl
theorem olF_end (rs : List Rc) (A B : List (Int × Int)) : olF rs A B rs.length = olF rs A A 0 := by
  unfold olF
  refine List.map_congr_left fun m hm => ?_
  have := List.mem_range.1 hm
  rw [if_pos this, if_neg (by omega)]
theorem olF_any (rs : List Rc) (A B C : List (Int × Int)) : olF rs A B 0 = olF rs C B 0 := by
  unfold olF
  refine List.map_congr_left fun m hm => ?_
  rw [if_neg (by omega), if_neg (by omega)]
theorem olF_same {rs : List Rc} {B : List (Int × Int)} {b c : Int} {k : Nat} (hk : k < rs.length) (hb : (rs.getD k default).bird ≠ b) : olF rs (B ++ [(b, c)]) B (k + 1) = olF rs (B ++ [(b, c)]) B k := by
  unfold olF
  refine List.map_congr_left fun m hm => ?_
  by_cases h : m < k
  · rw [if_pos h, if_pos (by omega)]
  · by_cases h1 : m = k
    · subst h1
      rw [if_pos (by omega), if_neg h, wonAt_snoc hb]
    · rw [if_neg h, if_neg (by omega)]
theorem olF_set {rs : List Rc} {B : List (Int × Int)} {b c : Int} {k : Nat} (hk : k < rs.length) (hb : (rs.getD k default).bird = b) (hf : (B.any fun p => p.1 == b) = false) : olF rs (B ++ [(b, c)]) B (k + 1) = (olF rs (B ++ [(b, c)]) B k).set k ⟨b, c, 0⟩ := by
  apply List.ext_getElem?
  intro m
  by_cases hm : m < rs.length
  · rw [List.getElem?_set, olF_len]
    unfold olF
    rw [List.getElem?_map, List.getElem?_map, List.getElem?_range hm]
    by_cases h1 : k = m
    · subst h1
      rw [if_pos rfl, if_pos hm]
      simp only [Option.map_some]
      rw [if_pos (by omega), hb, wonAt_new hf]
    · rw [if_neg h1]
      simp only [Option.map_some]
      by_cases h : m < k
      · rw [if_pos h, if_pos (by omega)]
      · rw [if_neg h, if_neg (by omega)]
  · rw [List.getElem?_eq_none (by rw [olF_len]; omega), List.getElem?_eq_none (by rw [List.length_set, olF_len]; omega)]
/-- .. and what goes back to the first i of them -/
def blF (rs : List Rc) (ps : List (Int × Int)) (R : Int) (i : Nat) : List Pz := (List.range rs.length).map fun m => ⟨(rs.getD m default).bird, wonAt ps (rs.getD m default).bird, if m < i then shareI R rs.length m else 0⟩
theorem blF_len (rs : List Rc) (ps : List (Int × Int)) (R : Int) (k : Nat) : (blF rs ps R k).length = rs.length := by simp [blF]
theorem blF_zero (rs : List Rc) (ps : List (Int × Int)) (R : Int) : olF rs ps ps 0 = blF rs ps R 0 := by
  unfold olF blF
  refine List.map_congr_left fun m hm => ?_
  rw [if_neg (by omega), if_neg (by omega)]
theorem blF_get (rs : List Rc) (ps : List (Int × Int)) (R : Int) (k : Nat) {m : Nat} (h : m < rs.length) : (blF rs ps R k).getD m default = ⟨(rs.getD m default).bird, wonAt ps (rs.getD m default).bird, if m < k then shareI R rs.length m else 0⟩ := by
  unfold blF
  rw [List.getD_eq_getElem?_getD, List.getElem?_map, List.getElem?_range h]
  rfl
theorem blF_set (rs : List Rc) (ps : List (Int × Int)) (R : Int) {k : Nat} (hk : k < rs.length) : blF rs ps R (k + 1) = (blF rs ps R k).set k ⟨(rs.getD k default).bird, wonAt ps (rs.getD k default).bird, shareI R rs.length k⟩ := by
  apply List.ext_getElem?
  intro m
  by_cases hm : m < rs.length
  · rw [List.getElem?_set, blF_len]
    unfold blF
    rw [List.getElem?_map, List.getElem?_map, List.getElem?_range hm]
    by_cases h1 : k = m
    · subst h1
      rw [if_pos rfl, if_pos hm]
      simp only [Option.map_some]
      rw [if_pos (by omega)]
    · rw [if_neg h1]
      simp only [Option.map_some]
      by_cases h : m < k
      · rw [if_pos h, if_pos (by omega)]
      · rw [if_neg h, if_neg (by omega)]
  · rw [List.getElem?_eq_none (by rw [blF_len]; omega), List.getElem?_eq_none (by rw [List.length_set, blF_len]; omega)]
theorem blF_all (f : Fu) : blF f.rs (wonL f []) (resI f []) f.rs.length = prizesL f := by
  unfold blF prizesL
  refine List.map_congr_left fun m hm => ?_
  have := List.mem_range.1 hm
  rw [if_pos this]
/-- a store into one cell of a row of prizes of one's own -/
theorem pz_put1 {W : World} {B c i j g : Nat} {L : List Pz} {v : Value} {y : Pz} (h : W.ownsRow B 40 3 (.slice (some ⟨g, 0, none⟩) L.length c) L.length (cv Pz.v L)) (hi : i < L.length) (hj : j < 3) (hy : (Pz.v y).toList = (Pz.v (L.getD i default)).toList.set j v) :
    (W.setCell ⟨g, i * 3 + j, none⟩ v).ownsRow B 40 3 (.slice (some ⟨g, 0, none⟩) L.length c) L.length (cv Pz.v (L.set i y)) := by
  rcases h.2 with ⟨he, _⟩ | ⟨g', cap, cur, he, hb, hg, h1, h2, h3, h4⟩
  · cases he
  · injection he with e1 e2 e3
    injection e1 with e1
    injection e1 with e1 _ _
    subst e1 e3
    refine ⟨by rw [cv_len Pz.vs, List.length_set], .inr ⟨g, _, _, rfl, hb, Blk.set_ hg _ _, h1, h2, by rw [Array.size_setIfInBounds]; exact h3, ?_⟩⟩
    apply List.ext_getElem?
    intro t
    by_cases ht : t < L.length * 3
    · have e := cv_get Pz.vs (L.set i y) (i := t / 3) (r := t % 3) (by rw [List.length_set]; omega) (by omega)
      rw [show t / 3 * 3 + t % 3 = t by omega] at e
      rw [e, List.getElem?_take_of_lt ht, Array.toList_setIfInBounds, List.getElem?_set]
      have h4t : (cur.toList.take (L.length * 3))[t]? = (cv Pz.v L)[t]? := by rw [h4]
      rw [List.getElem?_take_of_lt ht] at h4t
      have e2 := cv_get Pz.vs L (i := t / 3) (r := t % 3) (by omega) (by omega)
      rw [show t / 3 * 3 + t % 3 = t by omega] at e2
      have hcs : t < cur.toList.length := by
        rw [Array.length_toList, h3]
        have : L.length * 3 ≤ c * 3 := Nat.mul_le_mul_right 3 h1
        omega
      by_cases h5 : i * 3 + j = t
      · rw [if_pos h5, if_pos (by omega)]
        have h6 : t / 3 = i := by omega
        have h7 : t % 3 = j := by omega
        rw [h6, h7]
        have h8 : (L.set i y).getD i default = y := by
          rw [List.getD_eq_getElem?_getD, List.getElem?_set_self (by omega)]
          rfl
        rw [h8, hy, List.getElem?_set_self (by show j < 3; exact hj)]
      · rw [if_neg h5, h4t, e2]
        by_cases h6 : t / 3 = i
        · rw [h6]
          have h8 : (L.set i y).getD i default = y := by
            rw [List.getD_eq_getElem?_getD, List.getElem?_set_self (by omega)]
            rfl
          rw [h8, hy, List.getElem?_set_ne (by omega)]
        · have h8 : (L.set i y).getD (t / 3) default = L.getD (t / 3) default := by
            rw [List.getD_eq_getElem?_getD, List.getElem?_set_ne (fun e => h6 e.symm), ← List.getD_eq_getElem?_getD]
          rw [h8]
    · rw [List.getElem?_eq_none (by rw [List.length_take]; omega), List.getElem?_eq_none (by rw [cv_len Pz.vs, List.length_set]; omega)]
/-- how a row of prizes of one's own is read -/
theorem pz_cell {W : World} {B g c i : Nat} {L : List Pz} (h : W.ownsRow B 40 3 (.slice (some ⟨g, 0, none⟩) L.length c) L.length (cv Pz.v L)) (hi : i < L.length) : W.cell? ⟨g, i * 3, none⟩ = some (.int .i64 (L.getD i default).bird) ∧ W.cell? ⟨g, i * 3 + 1, none⟩ = some (.int .i64 (L.getD i default).won) ∧ W.cell? ⟨g, i * 3 + 2, none⟩ = some (.int .i64 (L.getD i default).back) ∧ W.frozen? ⟨g, i * 3 + 1, none⟩ = false ∧ W.frozen? ⟨g, i * 3 + 2, none⟩ = false ∧ g < W.heap.size ∧ B ≤ g ∧ ∃ cur, Blk W g 40 cur := by
  rcases h.2 with ⟨he, _⟩ | ⟨g', cap, cur, he, hb, hg, h1, h2, h3, h4⟩
  · cases he
  · injection he with e1 e2 e3
    injection e1 with e1
    injection e1 with e1 _ _
    subst e1 e3
    have hB : Blk W g 40 cur := hg
    have a := fun r (hr : r < 3) => take_cell hB h4 (k := i * 3 + r) (by omega) (v := (Pz.v (L.getD i default)).toList.getD r undef) (by
      rw [cv_get Pz.vs L hi hr]
      generalize L.getD i default = y
      have : r < (Pz.v y).toList.length := hr
      rw [List.getElem?_eq_getElem this, List.getD_eq_getElem?_getD, List.getElem?_eq_getElem this]
      rfl)
    exact ⟨a 0 (by omega), a 1 (by omega), a 2 (by omega), hB.frozen _, hB.frozen _, hB.lt, hb, cur, hB⟩
end Go.Proofs.YtnkmcoljijmgpaaGreat

set_option linter.unusedSimpArgs false
set_option linter.unusedVariables false
namespace Go.Proofs.YtnkmcoljijmgpaaGreat
open Go.RowKit Go.Shelf Go.Sort Go.Maps
attribute [local go_sem] Oper.semAt_some
attribute [local go_sem] field33
theorem own_Fr40 {W W' : World} {b z N B n k : Nat} {e : TypeId} {v : Value} {xs ys : List Value} {oa : Option Addr} {oc : Nat} (h : W.ownsRow b e z v N xs) (ho : W.ownsRow B 40 3 (.slice oa n oc) k ys) (he : e ≠ 40) (hF : Fr (fun i => oa = some ⟨i, 0, none⟩) W W') : W'.ownsRow b e z v N xs := by
  refine own_Fr h hF (fun g hg hR => ?_)
  have hR' : oa = some ⟨g, 0, none⟩ := hR
  rcases own_own h ho he with a | a
  · rw [hg] at a; cases a
  · exact a (by rw [hg, hR']; rfl)
theorem grp_Fr2 {W : World} {Bo B n k m : Nat} {ys : List Value} {oa va : Option Addr} {oc vc : Nat} {gs : List (List Int)} {cs : List Value} (h : RowsAt W Bo (.slice va m vc) gs cs) (ho : W.ownsRow B 40 3 (.slice oa n oc) k ys) {j : Nat} (hj : j < gs.length) :
    ∃ go ga gc, va = some ⟨go, 0, none⟩ ∧ ∀ W', Fr (fun i => oa = some ⟨i, 0, none⟩) W W' → go < W'.heap.size ∧ W'.cell? ⟨go, j, none⟩ = some (.slice ga (gs.getD j []).length gc) ∧ IntsAt W' ga (gs.getD j []) := by
  obtain ⟨go, ocap, ocur, hov, hbv, hlv, htv⟩ := own_some h.out (by omega)
  injection hov with e1 _ _
  obtain ⟨ga, gc, hcs, hig⟩ := own_ints (h.inn j hj)
  refine ⟨go, ga, gc, e1, fun W' hF => ?_⟩
  obtain ⟨go', _, _, hov', hbv', hlv', htv'⟩ := own_some (own_Fr40 h.out ho (by decide) hF) (by omega)
  injection hov' with e1' _ _
  rw [e1] at e1'
  injection e1' with e1'
  injection e1' with e1' _ _
  subst e1'
  have hcl := h.len
  obtain ⟨a', c', e, hI⟩ := own_ints (own_Fr40 (h.inn j hj) ho (by decide) hF)
  rw [hcs] at e
  injection e with e2 _ _
  rw [← e2] at hI
  exact ⟨hlv', take_cell hbv' htv' (k := j) (by omega) (by rw [← hcs]; simp [List.getD_eq_getElem?_getD, show j < cs.length by omega]), hI⟩
theorem G_Fr {W2 W W' : World} {oa : Option Addr} (h : G W2 W) (hF : Fr (fun i => oa = some ⟨i, 0, none⟩) W W') (hb : ∀ g, oa = some ⟨g, 0, none⟩ → W2.heap.size ≤ g) : G W2 W' :=
  ((G.fr (R := fun _ => False) h).t2 hF (fun i hi e => by have := hb i e; omega)).toG (fun _ _ h => h)
theorem nxt_le {PL : List Int} {GS : List (List Int)} (h : WonOk PL GS) : ∀ j, nxt GS j ≤ 12 * j
  | 0 => by simp [nxt]
  | j + 1 => by
    have ih := nxt_le h j
    show nxt GS j + _ ≤ _
    have : (GS.getD j []).length ≤ 12 := by
      rw [List.getD_eq_getElem?_getD]
      by_cases hj : j < GS.length
      · rw [List.getElem?_eq_getElem hj]
        exact (h.gne _ (List.getElem_mem hj)).2
      · rw [List.getElem?_eq_none (by omega)]
        simp
    omega
theorem sndS_step {PL : List Int} {GS : List (List Int)} (h : WonOk PL GS) {j : Nat} (hj : j < GS.length) : sndS (wst PL GS (j + 1)).2 = sndS (wst PL GS j).2 + sumP PL (nxt GS j) (GS.getD j []).length := by
  have hm : GS.getD j [] ∈ GS := by
    rw [List.getD_eq_getElem?_getD, List.getElem?_eq_getElem hj]
    exact List.getElem_mem _
  show sndS ((wst PL GS j).2 ++ gWon (wst PL GS j).1 (GS.getD j [])) = _
  obtain ⟨k, hk⟩ := wst_sub PL GS j
  rw [sndS_append, gWon_sum (h.gne _ hm).1 (by rw [hk]; exact (h.sums k _).1), take_min, wst_drop]
  rfl
theorem sndS_bd {PL : List Int} {GS : List (List Int)} (h : WonOk PL GS) {j : Nat} (hj : j ≤ GS.length) : 0 ≤ sndS (wst PL GS j).2 ∧ sndS (wst PL GS j).2 ≤ 1000000000 := by
  have h1 := wst_sum h j hj
  have h2 := sndS_nonneg (wst_nonneg h j)
  have h3 := h.sums (nxt GS j) PL.length
  have h4 := h.sums 0 PL.length
  rw [wst_drop] at h1
  rw [List.take_of_length_le (by rw [List.length_drop]; omega)] at h3
  rw [List.drop_zero, List.take_length] at h4
  omega
theorem sumP_bd {PL : List Int} {GS : List (List Int)} (h : WonOk PL GS) (t i : Nat) : 0 ≤ sumP PL t i ∧ sumP PL t i ≤ 1000000000 := h.sums t i
theorem grp_bd {PL : List Int} {GS : List (List Int)} (h : WonOk PL GS) {j : Nat} (hj : j < GS.length) : 1 ≤ (GS.getD j []).length ∧ (GS.getD j []).length ≤ 12 := by
  have hm : GS.getD j [] ∈ GS := by
    rw [List.getD_eq_getElem?_getD, List.getElem?_eq_getElem hj]
    exact List.getElem_mem _
  have := h.gne _ hm
  exact ⟨List.length_pos_iff.2 this.1, this.2⟩
theorem olF_take (rs : List Rc) {k : Nat} (hk : k < rs.length) : (olF rs [] [] 0).take (k + 1) = (olF rs [] [] 0).take k ++ [⟨(rs.getD k default).bird, 0, 0⟩] := by
  have hl : k < (olF rs [] [] 0).length := by rw [olF_len]; exact hk
  rw [List.take_add_one, List.getElem?_eq_getElem hl]
  have e := olF_get rs [] [] 0 hk
  rw [List.getD_eq_getElem?_getD, List.getElem?_eq_getElem hl] at e
  have e2 : (olF rs [] [] 0)[k] = ⟨(rs.getD k default).bird, 0, 0⟩ := e
  rw [e2]
  rfl
theorem iv_share (A : Int) (n : Nat) : ∀ k, k < n → ((List.range n).map (shareI A n)).getD k 0 = shareI A n k := fun k hk => by
  rw [List.getD_eq_getElem?_getD, List.getElem?_map, List.getElem?_range hk]
  rfl
set_option maxRecDepth 100000 in
set_option maxHeartbeats 16000000 in
theorem prizes65_any (r : Ra) (p : Nat) (w : World) (h : r.At w) (hr : raceB r = true) (hp : p < r.pools.length) : Calls Tryz.prog 65 #[.agg r.v, .int .i64 (p : Nat)] w (PzPost w (prizesL (fuOf r p none 0))) := by
  have hrv : r.v = #[.slice r.ra r.racers.length r.rc, .slice r.pa r.pools.length r.pc, .slice r.ta r.protests.length r.tc] := rfl
  have h12 := (uniq_of (race_parts hr)).1
  have hrl := runners_len r p
  have hnl : (namedL r p).length = (runners r p).length := by unfold namedL; rw [List.length_map]
  have hf := fu_facts hr hp none 0 []
  have HOK := Lib.hid hf.ok
  have HPOS := Lib.hid (show sndS (wst (placesL (fuOf r p none 0)) (orderL (fuOf r p none 0) []) (orderL (fuOf r p none 0) []).length).2 ≤ lefI (fuOf r p none 0) from hf.le)
  have hLb := left_bd (fu_bounds hr (inB_pool hp) none 0)
  have HNA := Lib.hid (fun (W : World) (hW : G w W) => naQ0 r p (runners r p).length W (h.keep hW) hnl)
  have HPC : Hid (∀ W, G w W → Calls Tryz.prog 66 #[.agg r.v, .int .i64 (p : Nat)] W fun e w' => ∃ a c, e = .returned (.slice a (placesL (fuOf r p none 0)).length c) ∧ IntsAt w' a (placesL (fuOf r p none 0)) ∧ G W w') := fun W hW => by
    refine (places66_any r p W (h.keep hW) hr hp).mono ?_
    rintro e w' ⟨v, rfl, ho, hG⟩
    obtain ⟨a, c, rfl, hI⟩ := own_ints ho
    exact ⟨a, c, rfl, hI, hG⟩
  have HPOT := Lib.hid (fun (W : World) (hW : G w W) => pot64_any r p W (h.keep hW) hr hp)
  have HORD : Hid (∀ W, G w W → Calls Tryz.prog 67 #[.agg r.v, .int .i64 (p : Nat)] W fun e w' => ∃ a c cs, e = .returned (.slice a (orderL (fuOf r p none 0) []).length c) ∧ RowsAt w' W.heap.size (.slice a (orderL (fuOf r p none 0) []).length c) (orderL (fuOf r p none 0) []) cs ∧ G W w') := fun W hW => by
    refine (order67_any r p W (h.keep hW) hr hp).mono ?_
    rintro e w' ⟨v, cs, rfl, ho, hG⟩
    obtain ⟨a, c, rfl, hI⟩ := rows_read ho
    exact ⟨a, c, cs, rfl, ho, hG⟩
  have hfin := (blF_all (fuOf r p none 0)).symm
  have HPP : Hid (∀ w' v, w'.ownsRow w.heap.size 40 3 v (prizesL (fuOf r p none 0)).length (cv Pz.v (prizesL (fuOf r p none 0))) → G w w' → PzPost w (prizesL (fuOf r p none 0)) (.returned v) w') := fun w' v a b => ⟨v, rfl, a, b⟩
  generalize PzPost w (prizesL (fuOf r p none 0)) = PP at *
  rw [hfin] at HPP
  unfold resI wonL at HPP
  have hrs0 : (fuOf r p none 0).rs = runners r p := rfl
  rw [hrs0] at HPP
  have HNM : Hid (∀ i, i < (runners r p).length → (namedL r p).getD i 0 = ((runners r p).getD i default).bird) := fun i hi => by
    unfold namedL
    rw [List.getD_eq_getElem?_getD, List.getElem?_map, List.getElem?_eq_getElem hi, List.getD_eq_getElem?_getD, List.getElem?_eq_getElem hi]
    rfl
  obtain ⟨T, hT0⟩ : ∃ T, T = totI (fuOf r p none 0) := ⟨_, rfl⟩
  obtain ⟨C, hC0⟩ : ∃ C, C = kepI (fuOf r p none 0) := ⟨_, rfl⟩
  obtain ⟨L, hL0⟩ : ∃ L, L = lefI (fuOf r p none 0) := ⟨_, rfl⟩
  obtain ⟨PL, hPL0⟩ : ∃ PL, PL = placesL (fuOf r p none 0) := ⟨_, rfl⟩
  obtain ⟨GS, hGS0⟩ : ∃ GS, GS = orderL (fuOf r p none 0) [] := ⟨_, rfl⟩
  rw [← hT0, ← hC0, ← hL0] at HPOT
  rw [← hPL0] at HPC
  rw [← hGS0] at HORD
  rw [← hL0] at hLb
  rw [← hPL0, ← hGS0] at HOK
  rw [← hPL0, ← hGS0, ← hL0] at HPOS
  rw [← hPL0, ← hGS0, ← hL0] at HPP
  obtain ⟨rs, hrs⟩ : ∃ rs, rs = runners r p := ⟨_, rfl⟩
  obtain ⟨NL, hNL⟩ : ∃ NL, NL = namedL r p := ⟨_, rfl⟩
  rw [← hrs] at HNA HPP HNM hrl
  rw [← hNL] at HNA HNM
  have hr12 : rs.length ≤ 12 := by omega
  have hnl2 : NL.length = rs.length := by rw [hNL, hrs]; exact hnl
  have HNL := Lib.hid hnl2
  have hpl := HOK.out.pl
  have hgl := HOK.out.gl
  rw [hrv] at HNA HPC HPOT HORD ⊢
  obtain ⟨W1, hW1⟩ : ∃ W1, W1 = w.alloc (.cells #[.slice r.ra r.racers.length r.rc, .slice r.pa r.pools.length r.pc, .slice r.ta r.protests.length r.tc] 26) := ⟨_, rfl⟩
  have g1 : G w W1 := by rw [hW1]; exact (G.rf _).a _
  have B0 : Blk W1 w.heap.size 26 #[.slice r.ra r.racers.length r.rc, .slice r.pa r.pools.length r.pc, .slice r.ta r.protests.length r.tc] := by rw [hW1]; exact Blk.new _ _ _
  clear hT0 hC0 hL0 hPL0 hGS0 hrs hNL hnl hnl2 hrs0 hfin hf h hr hrv hrl h12 hp
  obtain ⟨i0, hi0, hz0, hz1, hz2⟩ := info_parts info40
  go_enter Tryz.func65, Tryz.ntmps65
  go_upto_region 1 with fail
  change Code.wp _ _ _ _ (w.alloc (.cells #[.slice r.ra r.racers.length r.rc, .slice r.pa r.pools.length r.pc, .slice r.ta r.protests.length r.tc] 26))
  rw [← hW1]
  clear hW1
  refine wp_region_Y (S := fun W' => G W1 W') 7 8 rfl (by kernel_rfl) (G.rf _).d (fun hS => ?_)
  have gd : G W1 W1.drew := (G.rf _).d
  generalize W1.drew = WD at *
  refine wpAnyY_take (i := 0) (v := ?_) rfl (by kernel_rfl) (by kernel_rfl) (by kernel_rfl) (by kernel_rfl) (fun _ _ _ h => h) (Or.inl ⟨by kernel_rfl, ?_⟩) hS ?_
  rotate_left
  · intro w' hSw; have s0 := (B0.keep hSw).cell 0; have s1 := (B0.keep hSw).cell 1; have s2 := (B0.keep hSw).cell 2; have s3 := (B0.keep hSw).lt; go_simp; with_reducible rfl
  try simp only [Act.put, List.getElem_toArray, List.getElem_cons_zero, List.getElem_cons_succ, List.setIfInBounds_toArray, List.set_cons_zero, List.set_cons_succ]
  refine wpAnyY_take (i := 1) (v := ?_) rfl (by kernel_rfl) (by kernel_rfl) (by kernel_rfl) (by kernel_rfl) (fun _ _ _ h => h) (Or.inl ⟨by kernel_rfl, ?_⟩) hS ?_
  rotate_left
  · intro w' hSw; go_simp; with_reducible rfl
  try simp only [Act.put, List.getElem_toArray, List.getElem_cons_zero, List.getElem_cons_succ, List.setIfInBounds_toArray, List.set_cons_zero, List.set_cons_succ]
  refine wpAnyY_take (i := 3) (v := ?_) rfl (by kernel_rfl) (by kernel_rfl) (by kernel_rfl) (by kernel_rfl) (fun _ _ _ h => h) (Or.inl ⟨by kernel_rfl, ?_⟩) hS ?_
  rotate_left
  · intro w' hSw; have s0 := (B0.keep hSw).cell 0; have s1 := (B0.keep hSw).cell 1; have s2 := (B0.keep hSw).cell 2; have s3 := (B0.keep hSw).lt; go_simp; with_reducible rfl
  try simp only [Act.put, List.getElem_toArray, List.getElem_cons_zero, List.getElem_cons_succ, List.setIfInBounds_toArray, List.set_cons_zero, List.set_cons_succ]
  refine wpAnyY_take (i := 4) (v := ?_) rfl (by kernel_rfl) (by kernel_rfl) (by kernel_rfl) (by kernel_rfl) (fun _ _ _ h => h) (Or.inl ⟨by kernel_rfl, ?_⟩) hS ?_
  rotate_left
  · intro w' hSw; go_simp; with_reducible rfl
  try simp only [Act.put, List.getElem_toArray, List.getElem_cons_zero, List.getElem_cons_succ, List.setIfInBounds_toArray, List.set_cons_zero, List.set_cons_succ]
  refine wpAnyY_oneSW (i := 2) (by kernel_rfl) rfl (by kernel_rfl) (fun K2 hK2 => ?_)
  go_simp
  refine (HNA.out _ (g1.t gd)).mono ?_
  rintro e w3 ⟨hG3, na, nc, rfl, hni⟩
  replace gd := gd.t hG3
  refine hK2.out _ _ gd (fun hS => ?_)
  clear hK2
  try simp only [Act.put, List.getElem_toArray, List.getElem_cons_zero, List.getElem_cons_succ, List.setIfInBounds_toArray, List.set_cons_zero, List.set_cons_succ]
  refine wpAnyY_oneSW (i := 5) (by kernel_rfl) rfl (by kernel_rfl) (fun K5 hK5 => ?_)
  go_simp
  refine (HPC.out _ (g1.t gd)).mono ?_
  rintro e w4 ⟨pa, pc, rfl, hpi, hG4⟩
  replace gd := gd.t hG4
  refine hK5.out _ _ gd (fun hS => ?_)
  clear hK5
  try simp only [Act.put, List.getElem_toArray, List.getElem_cons_zero, List.getElem_cons_succ, List.setIfInBounds_toArray, List.set_cons_zero, List.set_cons_succ]
  refine wpAnyY_take (i := 6) (v := ?_) rfl (by kernel_rfl) (by kernel_rfl) (by kernel_rfl) (by kernel_rfl) (fun _ _ _ h => h) (Or.inl ⟨by kernel_rfl, ?_⟩) hS ?_
  rotate_left
  · intro w' hSw; go_simp; with_reducible rfl
  try simp only [Act.put, List.getElem_toArray, List.getElem_cons_zero, List.getElem_cons_succ, List.setIfInBounds_toArray, List.set_cons_zero, List.set_cons_succ]
  refine wpAnyY_oneW (i := 7) (by kernel_rfl) rfl (by kernel_rfl) (by kernel_rfl) (fun K7 hK7 => ?_)
  go_simp
  refine hK7.out _ _ ?_
  clear hK7
  try simp only [Act.put, List.getElem_toArray, List.getElem_cons_zero, List.getElem_cons_succ, List.setIfInBounds_toArray, List.set_cons_zero, List.set_cons_succ]
  have hni4 := hni.below hG4
  have g4 := g1.t gd
  have HB4 := Lib.hid (B0.keep gd)
  have HNI := Lib.hid hni4
  have HPI := Lib.hid hpi
  clear hS gd hG3 hG4 hni hni4 hpi B0 HNA HPC
  refine wpAnyY_done (by kernel_rfl) ?_ _
  go_wp2_with fail
  go_loopw [7, 8] (fun v i wr => ∃ (k : Nat), k ≤ rs.length ∧ i = .int .i64 k ∧ Hid (wr.ownsRow w4.heap.size 40 3 v k (cv Pz.v ((olF rs [] [] 0).take k))) ∧ Hid (G w4 wr)) (fun _ i _ => rs.length - (intOf i).toNat)
  case atStart => exact ⟨0, Nat.zero_le _, rfl, World.ownsRow_nil _ _ _ _, G.rf _⟩
  case round =>
    obtain ⟨k, hk, rfl, HO, HG⟩ := hrel
    obtain ⟨wk, rfl⟩ : ∃ wk, wk = wr := ⟨_, rfl⟩
    obtain ⟨oa, oc, rfl⟩ := own_slice HO.out
    by_cases hkl : k < rs.length
    · have hki : (k : Int) < rs.length := by omega
      have hnm := HNM.out k hkl
      rcases HNI.out with hx | ⟨gn, ofn, rfl, hgn, hnc⟩
      · rw [hx] at HNL; have := HNL.out; simp at this; omega
      have n0 := ((bcellB HG.out).1 gn _ hgn).trans (hnc k (by rw [HNL.out]; exact hkl))
      rw [hnm] at n0
      have HT := Lib.hid (olF_take rs hkl)
      obtain ⟨b, hb⟩ : ∃ b, b = (rs.getD k default).bird := ⟨_, rfl⟩
      rw [← hb] at n0 HT
      have ln : gn < wk.heap.size := Nat.lt_of_lt_of_le hgn HG.out.size
      clear hb hnm hnc
      have HOA := Lib.hid (own_G HO.out ((G.rf wk).a (.cells #[.int .i64 b, .int .i64 0, .int .i64 0] 40)))
      go_wp2_with (at_builtin; refine wpList_append_own _ rfl _ _ 36 rfl w4.heap.size 40 i0 (.agg #[.int .i64 0, .int .i64 0, .int .i64 0]) 3 24 Tryz.underlying36 hi0 hz0 hz1 hz2 rfl (by decide) _ k (cv Pz.v ((olF rs [] [] 0).take k)) rfl HOA.out ⟨wk.heap.size, 0, none⟩ 1 1 [.int .i64 b, .int .i64 0, .int .i64 0] rfl rfl (cell_new5 _ _ _) (by simp [Value.oneCell']) (by unfold maxLen; omega) (by omega) (by have h1 := HG.out.size; simp only [World.alloc, Array.size_push]; omega) ?_; intro v9 w9 hown9 hg9 hnil9)
      have HG9 := Lib.hid (grow_own (HG.out.a (.cells #[.int .i64 b, .int .i64 0, .int .i64 0] 40)) HOA.out (Nat.le_refl _) hg9)
      have HN9 := Lib.hid hown9
      clear hown9 hg9 HOA
      go_wp2_with fail
      go_roundw
      case rel => exact ⟨k + 1, by omega, by go_num, by rw [HT.out, cv_snoc]; exact HN9.out, HG9.out⟩
      case measure => simp [intOf] <;> omega
    obtain rfl : k = rs.length := by omega
    have hki : ¬ ((rs.length : Nat) : Int) < rs.length := by omega
    have HO2 : Hid (wk.ownsRow w4.heap.size 40 3 (.slice oa rs.length oc) rs.length (cv Pz.v (olF rs [] [] 0))) := by
      have := HO.out
      have e : (olF rs [] [] 0).take rs.length = olF rs [] [] 0 := List.take_of_length_le (by rw [olF_len]; exact Nat.le_refl _)
      rw [e] at this
      exact this
    have gk := g4.t HG.out
    have m0 := (HB4.out.keep HG.out).cell 0
    have m1 := (HB4.out.keep HG.out).cell 1
    have m2 := (HB4.out.keep HG.out).cell 2
    have lm := (HB4.out.keep HG.out).lt
    go_upto_region 8 with (go_at_call 64; refine (HPOT.out _ gk).mono ?_; rintro e w5 ⟨rfl, hG5⟩)
    clear m0 m1 m2 lm HPOT
    have g5 := gk.t hG5
    have g45 := HG.out.t hG5
    have m0 := (HB4.out.keep g45).cell 0
    have m1 := (HB4.out.keep g45).cell 1
    have m2 := (HB4.out.keep g45).cell 2
    have lm := (HB4.out.keep g45).lt
    go_upto_region 9 with (go_at_call 67; refine (HORD.out _ g5).mono ?_; rintro e w6 ⟨va, vc, cs, rfl, hrw, hG6⟩)
    clear m0 m1 m2 lm HORD
    have g46 := g45.t hG6
    have HO6 := Lib.hid (own_G HO2.out (hG5.t hG6))
    have HG46 := Lib.hid g46
    have HRW := Lib.hid hrw
    clear HO HO2 HG gk hG5 hG6 g5 g45 g46 hrw hki
    have HBS : Hid (∀ g, oa = some ⟨g, 0, none⟩ → w4.heap.size ≤ g) := fun g e => own_base HO6.out (by rw [e]; rfl)
    have HGR : Hid (∀ j, j < GS.length → ∃ go ga gc, va = some ⟨go, 0, none⟩ ∧ ∀ W', Fr (fun i => oa = some ⟨i, 0, none⟩) w6 W' → go < W'.heap.size ∧ W'.cell? ⟨go, j, none⟩ = some (.slice ga (GS.getD j []).length gc) ∧ IntsAt W' ga (GS.getD j [])) := fun j hj => grp_Fr2 HRW.out HO6.out hj
    have HGW : Hid (∀ W, Fr (fun i => oa = some ⟨i, 0, none⟩) w6 W → G w4 W) := fun W hF => G_Fr HG46.out hF HBS.out
    clear HRW HG46
    go_wp2_with fail
    go_loopw [9, 10, 12] (fun a b c wr => ∃ (j nx : Nat) (rest : Int), j ≤ GS.length ∧ a = .int .i64 nx ∧ b = .int .i64 rest ∧ c = .int .i64 j ∧ Hid (nx = nxt GS j) ∧ Hid (rest = L - sndS (wst PL GS j).2) ∧ Hid (wr.ownsRow w4.heap.size 40 3 (.slice oa rs.length oc) rs.length (cv Pz.v (olF rs (wst PL GS j).2 (wst PL GS j).2 0))) ∧ Hid (Fr (fun i => oa = some ⟨i, 0, none⟩) w6 wr)) (fun _ _ c _ => GS.length - (intOf c).toNat)
    case atStart => exact ⟨0, 0, L, Nat.zero_le _, rfl, rfl, rfl, rfl, by show _ = _; simp [wst, sndS], HO6.out, Fr.rf _ _⟩
    case round =>
      obtain ⟨j, nx, rest, hj, rfl, rfl, rfl, HNX, HRS, HOR, HF⟩ := hrel
      obtain ⟨wg, rfl⟩ : ∃ wg, wg = wr := ⟨_, rfl⟩
      by_cases hjl : j < GS.length
      rotate_left
      · obtain rfl : j = GS.length := by omega
        have hji : ¬ ((GS.length : Nat) : Int) < GS.length := by omega
        have hsb := sndS_bd HOK.out (Nat.le_refl GS.length)
        have hrb : -1000000000 ≤ rest ∧ rest ≤ 1200000 := by have := HRS.out; omega
        obtain ⟨PS, hPS⟩ : ∃ PS, PS = (wst PL GS GS.length).2 := ⟨_, rfl⟩
        have HLE := HPOS
        rw [← hPS] at HOR HRS HPP HLE
        have hr0 : 0 ≤ rest := by have := HRS.out; have := HLE.out; omega
        rw [← HRS.out] at HPP
        rw [blF_zero rs PS rest] at HOR
        clear HRS HLE HPOS hsb hPS
        have gk := HGW.out _ HF.out
        obtain ⟨nn, hnn⟩ : ∃ nn, nn = rs.length := ⟨_, rfl⟩
        go_upto_region 30 with (go_at_call 88; refine (shared_any8 rest rs.length _ ⟨hr0, by omega⟩ (by omega)).mono ?_; rintro e w7 ⟨sv, rfl, hso, hG7⟩)
        obtain ⟨sa, sc, rfl⟩ := own_slice hso
        have HSO := Lib.hid hso
        have HOR7 := Lib.hid (own_G HOR.out hG7)
        have HF7 := Lib.hid (gk.t hG7)
        clear hso hG7 HOR hnn gk nn
        have HSI : Hid (∀ W, Fr (fun i => oa = some ⟨i, 0, none⟩) w7 W → ∃ c, IntsAt W sa ((List.range rs.length).map (shareI rest rs.length))) := fun W hF => by
          have h1 := own_Fr40 HSO.out HOR7.out (by decide) hF
          have hl : ((List.range rs.length).map (shareI rest rs.length)).length = rs.length := by simp
          rw [← hl] at h1
          obtain ⟨a, c, e, hI⟩ := own_ints (by rw [hl] at h1 ⊢; exact h1)
          injection e with e1 _ _
          rw [e1]
          exact ⟨0, hI⟩
        clear HSO
        go_wp2_with fail
        go_loopw [19] (fun i wr => ∃ (k : Nat), k ≤ rs.length ∧ i = .int .i64 k ∧ Hid (wr.ownsRow w4.heap.size 40 3 (.slice oa rs.length oc) rs.length (cv Pz.v (blF rs PS rest k))) ∧ Hid (Fr (fun i => oa = some ⟨i, 0, none⟩) w7 wr)) (fun i _ => rs.length - (intOf i).toNat)
        case atStart => exact ⟨0, Nat.zero_le _, rfl, HOR7.out, Fr.rf _ _⟩
        case round =>
          obtain ⟨k, hk, rfl, HO, HFK⟩ := hrel
          obtain ⟨wk, rfl⟩ : ∃ wk, wk = wr := ⟨_, rfl⟩
          by_cases hkl : k < rs.length
          · have hki : (k : Int) < rs.length := by omega
            obtain ⟨og, ocap, ocur, hov, hob, hol, hot⟩ := own_some HO.out (by omega)
            injection hov with e1 _ e3
            subst e1 e3
            have HOB := HO
            have hlen := blF_len rs PS rest k
            have hO2 : wk.ownsRow w4.heap.size 40 3 (.slice (some ⟨og, 0, none⟩) (blF rs PS rest k).length oc) (blF rs PS rest k).length (cv Pz.v (blF rs PS rest k)) := by rw [hlen]; exact HO.out
            obtain ⟨c0, c1, c2, z1, z2, lo, lb, _⟩ := pz_cell hO2 (i := k) (by rw [hlen]; exact hkl)
            have hget := blF_get rs PS rest k hkl
            have hp1 := pz_put1 (i := k) (j := 2) (v := .int .i64 (shareI rest rs.length k)) (y := ⟨(rs.getD k default).bird, wonAt PS (rs.getD k default).bird, shareI rest rs.length k⟩) hO2 (by rw [hlen]; exact hkl) (by decide) (by rw [hget]; rfl)
            rw [hlen, ← blF_set rs PS rest hkl] at hp1
            obtain ⟨bk, hbk⟩ : ∃ bk, bk = ((blF rs PS rest k).getD k default).back := ⟨_, rfl⟩
            rw [← hbk] at c2
            obtain ⟨_, hsi⟩ := HSI.out _ HFK.out
            rcases hsi with hx | ⟨gs, ofs, rfl, hgs, hsc⟩
            · have e := congrArg List.length hx; rw [List.length_map, List.length_range] at e; have e2 : rs.length = 0 := e; omega
            have s0 := hsc k (by simpa using hkl)
            rw [iv_share rest rs.length k hkl] at s0
            obtain ⟨sk, hsk⟩ : ∃ sk, sk = shareI rest rs.length k := ⟨_, rfl⟩
            rw [← hsk] at s0 hp1
            have HP1 := Lib.hid hp1
            have HFS := Lib.hid (HFK.out.s (p := ⟨og, k * 3 + 2, none⟩) (.inl rfl) (.int .i64 sk))
            clear hob hot HO HOB hO2 c0 c1 z1 lb hget hbk hsc hsk hp1 HFK hlen
            go_wp2_with fail
            go_roundw
            case rel => exact ⟨k + 1, by omega, by go_num, HP1.out, HFS.out⟩
            case measure => simp [intOf] <;> omega
          · obtain rfl : k = rs.length := by omega
            have hki : ¬ ((rs.length : Nat) : Int) < rs.length := by omega
            have HFF := Lib.hid (HPP.out wk (.slice oa rs.length oc) (by rw [blF_len]; exact own_weaken HO.out g4.size) (g4.t (G_Fr HF7.out HFK.out HBS.out)))
            clear HPP HO HFK HSI
            go_wp2_with fail
            first | exact HFF.out | (go_ret; exact HFF.out)
      have hji : (j : Int) < GS.length := by omega
      have hgb := grp_bd HOK.out hjl
      have hnb := nxt_le HOK.out j
      have hnx : nx ≤ 144 := by have := HNX.out; omega
      obtain ⟨go, ga, gc, hve, hgall⟩ := HGR.out j hjl
      have HVE := Lib.hid hve
      have HGA := Lib.hid hgall
      clear hgall hve
      obtain ⟨hgo, hgc, hgi⟩ := HGA.out _ HF.out
      have hve := HVE.out
      subst hve
      obtain ⟨gr, hgr⟩ : ∃ gr, gr = GS.getD j [] := ⟨_, rfl⟩
      have HGE := Lib.hid hgr
      rw [← hgr] at hgb hgc hgi HGA
      clear hgr hgi HVE
      have hgcj : wg.cell? ⟨go, j, none⟩ = some (.slice ga gr.length gc) := hgc
      have gk := HGW.out _ HF.out
      have HSB := Lib.hid (fun i => sumP_bd HOK.out nx i)
      clear hgc
      go_wp2_with fail
      go_loopw [9, 13, 14] (fun a b c wr => ∃ (i m : Nat) (s : Int), i ≤ gr.length ∧ m ≤ nx + i ∧ nx + i ≤ m ∧ a = .int .i64 m ∧ b = .int .i64 s ∧ c = .int .i64 i ∧ Hid (s = sumP PL nx i) ∧ wr = wg) (fun _ _ c _ => gr.length - (intOf c).toNat)
      case atStart => exact ⟨0, nx, 0, Nat.zero_le _, by omega, by omega, rfl, rfl, rfl, (sumP_zero PL nx).symm, rfl⟩
      case round =>
        obtain ⟨i, m, s, hi, hm1, hm2, rfl, rfl, rfl, HS, rfl⟩ := hrel
        have hsb := HSB.out i
        rw [← HS.out] at hsb
        by_cases hil : i < gr.length
        rotate_left
        · obtain rfl : i = gr.length := by omega
          have hii : ¬ ((gr.length : Nat) : Int) < gr.length := by omega
          obtain ⟨wg, rfl⟩ : ∃ wg, wg = wr := ⟨_, rfl⟩
          go_upto_region 20 with (go_at_call 88; refine (shared_any8 s gr.length _ ⟨hsb.1, by omega⟩ (by omega)).mono ?_; rintro e w7 ⟨sv, rfl, hso, hG7⟩)
          obtain ⟨sa, sc, rfl⟩ := own_slice hso
          have HSO := Lib.hid hso
          have HOR7 := Lib.hid (own_G HOR.out hG7)
          have HF7 := Lib.hid (HF.out.g hG7)
          have HSI : Hid (∀ W, Fr (fun i => oa = some ⟨i, 0, none⟩) w7 W → IntsAt W sa ((List.range gr.length).map (shareI s gr.length))) := fun W hF => by
            have h1 := own_Fr40 HSO.out HOR7.out (by decide) hF
            have hl : ((List.range gr.length).map (shareI s gr.length)).length = gr.length := by simp
            obtain ⟨a, c, e, hI⟩ := own_ints (by rw [hl]; exact h1)
            injection e with e1 _ _
            rw [e1]
            exact hI
          have HA0 := Lib.hid (accP_zero PL GS j)
          have HAS : Hid (∀ i, i < gr.length → accP PL GS j (i + 1) = accP PL GS j i ++ [(gr.getD i 0, shareI s gr.length i)]) := fun i hi => by
            have := accP_succ PL GS j (i := i) (by rw [← HGE.out]; exact hi)
            rw [← HGE.out, ← HNX.out, ← HS.out] at this
            exact this
          have HAE : Hid (accP PL GS j gr.length = (wst PL GS (j + 1)).2) := by
            have := accP_all PL GS j
            rw [← HGE.out] at this
            exact this
          have HFR : Hid (∀ i, i < gr.length → ((accP PL GS j i).any fun p => p.1 == gr.getD i 0) = false) := fun i hi => by
            have := fresh HOK.out.keys hjl (i := i) (by rw [← HGE.out]; exact hi) PL
            rw [← HGE.out] at this
            unfold accP
            rw [← HGE.out]
            exact this
          have HST : Hid (sndS (wst PL GS (j + 1)).2 = sndS (wst PL GS j).2 + s) := by
            have := sndS_step HOK.out hjl
            rw [← HGE.out, ← HNX.out, ← HS.out] at this
            exact this
          have HNE : Hid (nxt GS (j + 1) = nx + gr.length) := by
            show nxt GS j + (GS.getD j []).length = _
            rw [← HGE.out, ← HNX.out]
          have hbj := sndS_bd HOK.out hj
          have hrb : -2000000000 ≤ rest ∧ rest ≤ 1200000 := by have := HRS.out; omega
          have HGW7 : Hid (∀ W, Fr (fun i => oa = some ⟨i, 0, none⟩) w7 W → go < W.heap.size ∧ W.cell? ⟨go, j, none⟩ = some (.slice ga gr.length gc) ∧ IntsAt W ga gr) := fun W hF => HGA.out W (HF7.out.t hF)
          have x1 : IntKind.i64.wrap (rest - s) = rest - s := IntWalk.i64_in _ (by omega)
          clear hso hG7 HSO HOR HF HSB HGA hgcj hgo gk
          go_wp2_with fail
          go_loopw [16] (fun i wr => ∃ (k : Nat), k ≤ gr.length ∧ i = .int .i64 k ∧ Hid (wr.ownsRow w4.heap.size 40 3 (.slice oa rs.length oc) rs.length (cv Pz.v (olF rs (accP PL GS j k) (accP PL GS j k) 0))) ∧ Hid (Fr (fun i => oa = some ⟨i, 0, none⟩) w7 wr)) (fun i _ => gr.length - (intOf i).toNat)
          case atStart => exact ⟨0, Nat.zero_le _, rfl, by rw [HA0.out]; exact HOR7.out, Fr.rf _ _⟩
          case round =>
            obtain ⟨i2, hi2, rfl, HOI, HFI⟩ := hrel
            obtain ⟨wi, rfl⟩ : ∃ wi, wi = wr := ⟨_, rfl⟩
            obtain ⟨lgo, hgcj, hgi⟩ := HGW7.out _ HFI.out
            by_cases hi2l : i2 < gr.length
            rotate_left
            · obtain rfl : i2 = gr.length := by omega
              have hii2 : ¬ ((gr.length : Nat) : Int) < gr.length := by omega
              rw [HAE.out] at HOI
              clear hgi
              go_wp2_with fail
              go_roundw
              case rel => exact ⟨j + 1, m, rest - s, by omega, rfl, rfl, by go_num, by show _ = _; rw [HNE.out]; omega, by show _ = _; rw [HST.out, HRS.out]; omega, HOI.out, HF7.out.t HFI.out⟩
              case measure => simp [intOf] <;> omega
            have hii2 : (i2 : Int) < gr.length := by omega
            rcases hgi with hx | ⟨gg, ofg, rfl, hgg, hgcell⟩
            · rw [hx] at hi2l; simp at hi2l
            have HGG : Hid (∀ W, Fr (fun i => oa = some ⟨i, 0, none⟩) w7 W → gg < W.heap.size ∧ W.cell? ⟨gg, ofg + i2, none⟩ = some (.int .i64 (gr.getD i2 0))) := fun W hF => by
              obtain ⟨_, _, h3⟩ := HGW7.out W hF
              rcases h3 with hx | ⟨g', o', e, l', c'⟩
              · rw [hx] at hi2l; simp at hi2l
              · injection e with e
                injection e with e1 e2 _
                subst e1 e2
                exact ⟨l', c' i2 hi2l⟩
            have HA1 := Lib.hid (HAS.out i2 hi2l)
            have HFU := Lib.hid (HFR.out i2 hi2l)
            obtain ⟨gb, hgbE⟩ : ∃ gb, gb = gr.getD i2 0 := ⟨_, rfl⟩
            rw [← hgbE] at HGG HA1 HFU
            obtain ⟨AC, hAC⟩ : ∃ AC, AC = accP PL GS j i2 := ⟨_, rfl⟩
            rw [← hAC] at HOI HA1 HFU
            clear hgbE hAC hgcell hgg
            go_wp2_with fail
            go_loopw [17] (fun i wr => ∃ (k : Nat), k ≤ rs.length ∧ i = .int .i64 k ∧ Hid (wr.ownsRow w4.heap.size 40 3 (.slice oa rs.length oc) rs.length (cv Pz.v (olF rs (AC ++ [(gb, shareI s gr.length i2)]) AC k))) ∧ Hid (Fr (fun i => oa = some ⟨i, 0, none⟩) w7 wr)) (fun i _ => rs.length - (intOf i).toNat)
            case atStart => exact ⟨0, Nat.zero_le _, rfl, by rw [olF_any rs _ AC AC]; exact HOI.out, HFI.out⟩
            case round =>
              obtain ⟨k, hk, rfl, HO, HFK⟩ := hrel
              obtain ⟨wk, rfl⟩ : ∃ wk, wk = wr := ⟨_, rfl⟩
              by_cases hkl : k < rs.length
              rotate_left
              · obtain rfl : k = rs.length := by omega
                have hki : ¬ ((rs.length : Nat) : Int) < rs.length := by omega
                rw [olF_end, ← HA1.out] at HO
                go_wp2_with fail
                go_roundw
                case rel => exact ⟨i2 + 1, by omega, by go_num, HO.out, HFK.out⟩
                case measure => simp [intOf] <;> omega
              have hki : (k : Int) < rs.length := by omega
              obtain ⟨og, ocap, ocur, hov, hob, hol, hot⟩ := own_some HO.out (by omega)
              injection hov with e1 _ e3
              have HOV := Lib.hid e1
              clear e3 hob hot hol lgo hgcj
              subst e1
              have hlen := olF_len rs (AC ++ [(gb, shareI s gr.length i2)]) AC k
              have hO2 : wk.ownsRow w4.heap.size 40 3 (.slice (some ⟨og, 0, none⟩) (olF rs (AC ++ [(gb, shareI s gr.length i2)]) AC k).length oc) (olF rs (AC ++ [(gb, shareI s gr.length i2)]) AC k).length (cv Pz.v (olF rs (AC ++ [(gb, shareI s gr.length i2)]) AC k)) := by rw [hlen]; exact HO.out
              obtain ⟨c0, c1, c2, z1, z2, lo, lb, _⟩ := pz_cell hO2 (i := k) (by rw [hlen]; exact hkl)
              have hget := olF_get rs (AC ++ [(gb, shareI s gr.length i2)]) AC k hkl
              have hget0 : ((olF rs (AC ++ [(gb, shareI s gr.length i2)]) AC k).getD k default).bird = (rs.getD k default).bird := by rw [hget]
              have HGV : Hid ((rs.getD k default).bird = gb → (Pz.v ⟨gb, shareI s gr.length i2, 0⟩).toList = (Pz.v ((olF rs (AC ++ [(gb, shareI s gr.length i2)]) AC k).getD k default)).toList.set 1 (.int .i64 (shareI s gr.length i2))) := fun e => by rw [hget, ← e]; rfl
              have HSE : Hid ((rs.getD k default).bird = gb → (olF rs (AC ++ [(gb, shareI s gr.length i2)]) AC k).set k ⟨gb, shareI s gr.length i2, 0⟩ = olF rs (AC ++ [(gb, shareI s gr.length i2)]) AC (k + 1)) := fun e => (olF_set hkl e HFU.out).symm
              have HSAME : Hid ((rs.getD k default).bird ≠ gb → olF rs (AC ++ [(gb, shareI s gr.length i2)]) AC (k + 1) = olF rs (AC ++ [(gb, shareI s gr.length i2)]) AC k) := fun e => olF_same hkl e
              rw [hget0] at c0
              obtain ⟨zb, hzb⟩ : ∃ zb, zb = (rs.getD k default).bird := ⟨_, rfl⟩
              obtain ⟨zw, hzw⟩ : ∃ zw, zw = ((olF rs (AC ++ [(gb, shareI s gr.length i2)]) AC k).getD k default).won := ⟨_, rfl⟩
              rw [← hzb] at c0 HSE HGV HSAME
              rw [← hzw] at c1
              obtain ⟨lgo, hgcj, _⟩ := HGW7.out _ HFK.out
              obtain ⟨lgg, hgb0⟩ := HGG.out _ HFK.out
              clear hlen hO2 c2 z2 lb hget hget0 hzb hzw
              go_upto_region 26 with fail
              refine wp_region_Y (S := fun W' => G wk W') 12 13 rfl (by kernel_rfl) (G.rf _).d (fun hS => ?_)
              have gd : G wk wk.drew := (G.rf _).d
              generalize wk.drew = WD at *
              refine wpAnyY_take (i := 0) (v := ?_) rfl (by kernel_rfl) (by kernel_rfl) (by kernel_rfl) (by kernel_rfl) (fun _ _ _ h => h) (Or.inl ⟨by kernel_rfl, ?_⟩) hS ?_
              rotate_left
              · intro w' hSw; go_simp; with_reducible rfl
              try simp only [Act.put, List.getElem_toArray, List.getElem_cons_zero, List.getElem_cons_succ, List.setIfInBounds_toArray, List.set_cons_zero, List.set_cons_succ]
              refine wpAnyY_take (i := 1) (v := ?_) rfl (by kernel_rfl) (by kernel_rfl) (by kernel_rfl) (by kernel_rfl) (fun _ _ _ h => h) (Or.inl ⟨by kernel_rfl, ?_⟩) hS ?_
              rotate_left
              · intro w' hSw; go_simp; with_reducible rfl
              try simp only [Act.put, List.getElem_toArray, List.getElem_cons_zero, List.getElem_cons_succ, List.setIfInBounds_toArray, List.set_cons_zero, List.set_cons_succ]
              refine wpAnyY_take (i := 2) (v := ?_) rfl (by kernel_rfl) (by kernel_rfl) (by kernel_rfl) (by kernel_rfl) (fun _ _ _ h => h) (Or.inl ⟨by kernel_rfl, ?_⟩) hS ?_
              rotate_left
              · intro w' hSw; go_simp; with_reducible rfl
              try simp only [Act.put, List.getElem_toArray, List.getElem_cons_zero, List.getElem_cons_succ, List.setIfInBounds_toArray, List.set_cons_zero, List.set_cons_succ]
              refine wpAnyY_take (i := 3) (v := ?_) rfl (by kernel_rfl) (by kernel_rfl) (by kernel_rfl) (by kernel_rfl) (fun _ _ _ h => h) (Or.inl ⟨by kernel_rfl, ?_⟩) hS ?_
              rotate_left
              · intro w' hSw; go_simp; with_reducible rfl
              try simp only [Act.put, List.getElem_toArray, List.getElem_cons_zero, List.getElem_cons_succ, List.setIfInBounds_toArray, List.set_cons_zero, List.set_cons_succ]
              refine wpAnyY_take (i := 4) (v := ?_) rfl (by kernel_rfl) (by kernel_rfl) (by kernel_rfl) (by kernel_rfl) (fun _ _ _ h => h) (Or.inl ⟨by kernel_rfl, ?_⟩) hS ?_
              rotate_left
              · intro w' hSw; have s0 := ((bcellB hSw).1 og _ lo).trans c0; have s1 : og < w'.heap.size := Nat.lt_of_lt_of_le lo hSw.size; go_simp; with_reducible rfl
              try simp only [Act.put, List.getElem_toArray, List.getElem_cons_zero, List.getElem_cons_succ, List.setIfInBounds_toArray, List.set_cons_zero, List.set_cons_succ]
              refine wpAnyY_take (i := 5) (v := ?_) rfl (by kernel_rfl) (by kernel_rfl) (by kernel_rfl) (by kernel_rfl) (fun _ _ _ h => h) (Or.inl ⟨by kernel_rfl, ?_⟩) hS ?_
              rotate_left
              · intro w' hSw; go_simp; with_reducible rfl
              try simp only [Act.put, List.getElem_toArray, List.getElem_cons_zero, List.getElem_cons_succ, List.setIfInBounds_toArray, List.set_cons_zero, List.set_cons_succ]
              refine wpAnyY_take (i := 6) (v := ?_) rfl (by kernel_rfl) (by kernel_rfl) (by kernel_rfl) (by kernel_rfl) (fun _ _ _ h => h) (Or.inl ⟨by kernel_rfl, ?_⟩) hS ?_
              rotate_left
              · intro w' hSw; go_simp; with_reducible rfl
              try simp only [Act.put, List.getElem_toArray, List.getElem_cons_zero, List.getElem_cons_succ, List.setIfInBounds_toArray, List.set_cons_zero, List.set_cons_succ]
              refine wpAnyY_take (i := 7) (v := ?_) rfl (by kernel_rfl) (by kernel_rfl) (by kernel_rfl) (by kernel_rfl) (fun _ _ _ h => h) (Or.inl ⟨by kernel_rfl, ?_⟩) hS ?_
              rotate_left
              · intro w' hSw; go_simp; with_reducible rfl
              try simp only [Act.put, List.getElem_toArray, List.getElem_cons_zero, List.getElem_cons_succ, List.setIfInBounds_toArray, List.set_cons_zero, List.set_cons_succ]
              refine wpAnyY_take (i := 8) (v := ?_) rfl (by kernel_rfl) (by kernel_rfl) (by kernel_rfl) (by kernel_rfl) (fun _ _ _ h => h) (Or.inl ⟨by kernel_rfl, ?_⟩) hS ?_
              rotate_left
              · intro w' hSw; have s0 := ((bcellB hSw).1 go _ lgo).trans hgcj; have s1 : go < w'.heap.size := Nat.lt_of_lt_of_le lgo hSw.size; go_simp; with_reducible rfl
              try simp only [Act.put, List.getElem_toArray, List.getElem_cons_zero, List.getElem_cons_succ, List.setIfInBounds_toArray, List.set_cons_zero, List.set_cons_succ]
              refine wpAnyY_take (i := 9) (v := ?_) rfl (by kernel_rfl) (by kernel_rfl) (by kernel_rfl) (by kernel_rfl) (fun _ _ _ h => h) (Or.inl ⟨by kernel_rfl, ?_⟩) hS ?_
              rotate_left
              · intro w' hSw; go_simp; with_reducible rfl
              try simp only [Act.put, List.getElem_toArray, List.getElem_cons_zero, List.getElem_cons_succ, List.setIfInBounds_toArray, List.set_cons_zero, List.set_cons_succ]
              refine wpAnyY_take (i := 10) (v := ?_) rfl (by kernel_rfl) (by kernel_rfl) (by kernel_rfl) (by kernel_rfl) (fun _ _ _ h => h) (Or.inl ⟨by kernel_rfl, ?_⟩) hS ?_
              rotate_left
              · intro w' hSw; go_simp; with_reducible rfl
              try simp only [Act.put, List.getElem_toArray, List.getElem_cons_zero, List.getElem_cons_succ, List.setIfInBounds_toArray, List.set_cons_zero, List.set_cons_succ]
              refine wpAnyY_take (i := 11) (v := ?_) rfl (by kernel_rfl) (by kernel_rfl) (by kernel_rfl) (by kernel_rfl) (fun _ _ _ h => h) (Or.inl ⟨by kernel_rfl, ?_⟩) hS ?_
              rotate_left
              · intro w' hSw; have s0 := ((bcellB hSw).1 gg _ lgg).trans hgb0; have s1 : gg < w'.heap.size := Nat.lt_of_lt_of_le lgg hSw.size; go_simp; with_reducible rfl
              try simp only [Act.put, List.getElem_toArray, List.getElem_cons_zero, List.getElem_cons_succ, List.setIfInBounds_toArray, List.set_cons_zero, List.set_cons_succ]
              refine wpAnyY_oneW (i := 12) (by kernel_rfl) rfl (by kernel_rfl) (by kernel_rfl) (fun K12 hK12 => ?_)
              go_simp
              refine hK12.out _ _ ?_
              clear hK12
              try simp only [Act.put, List.getElem_toArray, List.getElem_cons_zero, List.getElem_cons_succ, List.setIfInBounds_toArray, List.set_cons_zero, List.set_cons_succ]
              refine wpAnyY_done (by kernel_rfl) ?_ _
              have HFD := Lib.hid (HFK.out.g gd)
              have HOD := Lib.hid (own_G HO.out gd)
              by_cases he : zb = gb
              · have hb : (zb == gb) = true := by simpa using he
                have c1d := ((bcellB gd).1 og _ lo).trans c1
                have z1d := ((bcellB gd).2 og _ lo).trans z1
                have lod : og < WD.heap.size := Nat.lt_of_lt_of_le lo gd.size
                have HFS := Lib.hid (HFD.out.s (p := ⟨og, k * 3 + 1, none⟩) (.inl rfl) (.int .i64 (shareI s gr.length i2)))
                have hOD := own_G HO.out gd
                have hlen := olF_len rs (AC ++ [(gb, shareI s gr.length i2)]) AC k
                have hp1 := pz_put1 (i := k) (j := 1) (v := .int .i64 (shareI s gr.length i2)) (y := ⟨gb, shareI s gr.length i2, 0⟩) (B := w4.heap.size) (c := oc) (g := og) (L := olF rs (AC ++ [(gb, shareI s gr.length i2)]) AC k) (W := WD) (by rw [hlen]; exact hOD) (by rw [hlen]; exact hkl) (by decide) (HGV.out he)
                rw [hlen, HSE.out he] at hp1
                have HP1 := Lib.hid hp1
                rcases (HSI.out _ HFD.out) with hx | ⟨gs, ofs, hse, hgs, hsc⟩
                · have e := congrArg List.length hx; rw [List.length_map, List.length_range] at e; have e2 : gr.length = 0 := e; omega
                have s0 := hsc i2 (by simpa using hi2l)
                rw [iv_share s gr.length i2 hi2l] at s0
                subst hse
                obtain ⟨sk, hsk⟩ : ∃ sk, sk = shareI s gr.length i2 := ⟨_, rfl⟩
                rw [← hsk] at s0 HP1 HFS
                have HSK := Lib.hid hsk
                clear hsk
                clear hsc hOD hlen hp1 c0 c1 z1 lo HSAME lgo hgcj lgg hgb0 he HSE HGV
                go_wp2_with fail
                go_roundw
                case rel => exact ⟨k + 1, by omega, by go_num, by rw [← HSK.out]; exact HP1.out, HFS.out⟩
                case measure => simp [intOf] <;> omega
              · have hb : (zb == gb) = false := by simpa using he
                have HS1 := Lib.hid (HSAME.out he)
                clear c0 c1 z1 lo HSE HGV HSAME lgo hgcj lgg hgb0 he
                go_wp2_with fail
                go_roundw
                case rel => exact ⟨k + 1, by omega, by go_num, by rw [HS1.out]; exact HOD.out, HFD.out⟩
                case measure => simp [intOf] <;> omega
        have hii : (i : Int) < gr.length := by omega
        have hss := sumP_succ PL nx i
        have hsb2 := HSB.out (i + 1)
        by_cases hml : m < PL.length
        · have hmi : (m : Int) < PL.length := by omega
          rw [if_pos (by omega), ← HS.out, show nx + i = m by omega] at hss
          rcases HPI.out with hx | ⟨gp, ofp, rfl, hgp, hpc⟩
          · rw [hx] at hml; simp at hml
          have p0 := ((bcellB gk).1 gp _ hgp).trans (hpc m hml)
          have lp : gp < wr.heap.size := Nat.lt_of_lt_of_le hgp gk.size
          obtain ⟨y, hy⟩ : ∃ y, y = PL.getD m 0 := ⟨_, rfl⟩
          rw [← hy] at p0 hss
          rw [hss] at hsb2
          have x1 : IntKind.i64.wrap (s + y) = s + y := IntWalk.i64_in _ (by omega)
          have HSS := Lib.hid hss
          clear hy hpc hss
          go_wp2_with fail
          go_roundw
          case rel => exact ⟨i + 1, m + 1, s + y, by omega, by omega, by omega, by go_num, rfl, by go_num, HSS.out.symm, by first | trivial | rfl⟩
          case measure => simp [intOf] <;> omega
        · have hmi : ¬ (m : Int) < PL.length := by omega
          rw [if_neg (by omega), ← HS.out] at hss
          have HSS : Hid (s = sumP PL nx (i + 1)) := by show _ = _; omega
          clear hss
          go_wp2_with fail
          go_roundw
          case rel => exact ⟨i + 1, m + 1, s, by omega, by omega, by omega, by go_num, rfl, by go_num, HSS.out, by first | trivial | rfl⟩
          case measure => simp [intOf] <;> omega
end Go.Proofs.YtnkmcoljijmgpaaGreat

set_option linter.unusedSimpArgs false
set_option linter.unusedVariables false
namespace Go.Proofs.YtnkmcoljijmgpaaGreat
open Go.RowKit Go.Shelf Go.Sort Go.Maps
attribute [local go_sem] Oper.semAt_some
theorem q_in {r : Ra} {p : Int} (h : qE r p [] = 0) : raceB r = true ∧ ∃ n : Nat, p = (n : Int) ∧ n < r.pools.length := by
  obtain ⟨h1, h2⟩ := qE_parts h
  unfold isInB at h2
  simp only [Bool.and_eq_true, decide_eq_true_eq] at h2
  exact ⟨h1, p.toNat, by omega, by omega⟩
end Go.Proofs.YtnkmcoljijmgpaaGreat

set_option linter.unusedSimpArgs false
set_option linter.unusedVariables false
namespace Go.Proofs.YtnkmcoljijmgpaaGreat
open Go.RowKit Go.Shelf Go.Sort Go.Maps
attribute [local go_sem] Oper.semAt_some
/-- the least and the greatest of the first n cases, as the reference keeps them -/
def lowT (V : Nat → Int) : Nat → Int
  | 0 => -1
  | n + 1 => if lowT V n < 0 ∨ V n < lowT V n then V n else lowT V n
def highT (V : Nat → Int) : Nat → Int
  | 0 => 0
  | n + 1 => max (highT V n) (V n)
theorem lowT_facts {V : Nat → Int} (h : ∀ j, 0 ≤ V j) : ∀ n, (∀ j, j < n → lowT V n ≤ V j) ∧ (0 < n → 0 ≤ lowT V n ∧ ∃ j, j < n ∧ lowT V n = V j)
  | 0 => ⟨fun j hj => by omega, fun h => by omega⟩
  | n + 1 => by
    obtain ⟨h1, h2⟩ := lowT_facts h n
    have hn := h n
    unfold lowT
    by_cases hc : lowT V n < 0 ∨ V n < lowT V n
    · rw [if_pos hc]
      refine ⟨fun j hj => ?_, fun _ => ⟨hn, n, by omega, rfl⟩⟩
      by_cases e : j = n
      · rw [e]; exact Int.le_refl _
      · have := h1 j (by omega)
        have h3 := h2 (by omega)
        omega
    · rw [if_neg hc]
      have hn0 : 0 < n := by
        rcases Nat.eq_zero_or_pos n with e | e
        · subst e
          exact absurd (.inl (by show (-1 : Int) < 0; decide)) hc
        · exact e
      obtain ⟨h3, j0, h4, h5⟩ := h2 hn0
      refine ⟨fun j hj => ?_, fun _ => ⟨h3, j0, by omega, h5⟩⟩
      by_cases e : j = n
      · rw [e]; omega
      · exact h1 j (by omega)
theorem highT_facts {V : Nat → Int} (h : ∀ j, 0 ≤ V j) : ∀ n, (∀ j, j < n → V j ≤ highT V n) ∧ (highT V n = 0 ∨ ∃ j, j < n ∧ highT V n = V j)
  | 0 => ⟨fun j hj => by omega, .inl rfl⟩
  | n + 1 => by
    obtain ⟨h1, h2⟩ := highT_facts h n
    unfold highT
    refine ⟨fun j hj => ?_, ?_⟩
    · by_cases e : j = n
      · rw [e]; omega
      · have := h1 j (by omega); omega
    · by_cases hc : highT V n ≤ V n
      · exact .inr ⟨n, by omega, by omega⟩
      · rcases h2 with h2 | ⟨j, h3, h4⟩
        · exact .inl (by omega)
        · exact .inr ⟨j, by omega, by omega⟩
theorem lowT_all {V : Nat → Int} (h : ∀ j, 0 ≤ V j) {NN : Nat} {lo hi : Int} (hb : ∀ j, j < NN → lo ≤ V j ∧ V j ≤ hi) (h1 : anyU (fun j => V j == lo) NN = true) (h2 : anyU (fun j => V j == hi) NN = true) : lowT V NN = lo ∧ highT V NN = hi := by
  obtain ⟨a, ha, ea⟩ := anyU_iff.1 h1
  obtain ⟨c, hc, ec⟩ := anyU_iff.1 h2
  have ea' : V a = lo := by simpa using ea
  have ec' : V c = hi := by simpa using ec
  obtain ⟨l1, l2⟩ := lowT_facts h NN
  obtain ⟨u1, u2⟩ := highT_facts h NN
  obtain ⟨_, j, hj, ej⟩ := l2 (by omega)
  have x1 := l1 a ha
  have x2 := hb j hj
  have x3 := u1 c hc
  have x4 := h c
  refine ⟨by omega, ?_⟩
  rcases u2 with u2 | ⟨k, hk, ek⟩
  · omega
  · have := hb k hk; omega
theorem qE_b0 {r : Ra} {p : Int} (b : Int) (h : qE r p [] ≠ 0) : qE r p [b] = qE r p [] := by
  unfold qE at h ⊢
  by_cases h1 : raceB r = true
  · rw [if_pos h1] at h ⊢
    rw [if_pos h1]
    by_cases h2 : isInB p 0 ((r.pools.length : Int) - 1) = true
    · rw [if_pos h2] at h
      exact absurd rfl h
    · rw [if_neg h2, if_neg h2]
  · rw [if_neg h1, if_neg h1]
theorem has_named (r : Ra) (p b : Int) : hasB (runners r p) b = inL (namedL r p) b := by
  rw [Bool.eq_iff_iff, hasB_mem, inL_iff]
  unfold namedL
  rw [List.mem_map]
theorem qE_b1 {r : Ra} {p b : Int} (h : qE r p [] = 0) : qE r p [b] = if inL (namedL r p) b = true then 0 else 1 := by
  obtain ⟨h1, h2⟩ := qE_parts h
  unfold qE
  rw [if_pos h1, if_pos h2]
  have e : allU (fun i => hasB (runners r p) ([b].getD i 0)) [b].length = hasB (runners r p) b := by
    show allU (fun i => hasB (runners r p) ([b].getD i 0)) 1 = _
    rw [allU_succ]
    rfl
  rw [e, has_named]
/-- the race of one case, as it lies -/
def caseR (o : Ra) (S : List Int) : Ra := ⟨o.ra, o.rc, o.racers.map (outS S), o.pa, o.pc, o.pools, none, 0, []⟩
theorem caseR_v (o : Ra) (S : List Int) : (caseR o S).v = #[.slice o.ra o.racers.length o.rc, .slice o.pa o.pools.length o.pc, .slice none 0 0] := by
  show #[Value.slice o.ra (o.racers.map (outS S)).length o.rc, .slice o.pa o.pools.length o.pc, .slice none 0 0] = _
  rw [List.length_map]
structure CaseZ (ZL : List Pz) (b v : Int) (q : Nat) : Prop where
  lt : q < ZL.length
  is : (ZL.getD q default).bird = b
  no : ∀ m, m < ZL.length → m ≠ q → (ZL.getD m default).bird ≠ b
  won : (ZL.getD q default).won = v
theorem case_Z {r o : Ra} {p b : Int} {n : Nat} (hr : raceB r = true) (her : o.racers.map rcP = r.racers.map rcP) (hps : o.pools.map poP = r.pools.map poP) (hpr : o.protests = r.protests) (hq : qE r p [b] = 0) :
    raceB (caseR o (stOf r.protests n)) = true ∧ qE (caseR o (stOf r.protests n)) p [] = 0 ∧ (prizesL (fuOf (caseR o (stOf r.protests n)) p none 0)).length ≤ 12 ∧ ∃ q, CaseZ (prizesL (fuOf (caseR o (stOf r.protests n)) p none 0)) b (wonAt (wonL (fuOf r p none 0) (stOf r.protests n)) b) q := by
  obtain ⟨hB, hQ, hW⟩ := case_all (p := p) (o1 := caseR o (stOf r.protests n)) hr her hps hpr rfl rfl (List.nil_sublist _)
  obtain ⟨h1, h2, _⟩ := case_one (o1 := caseR o (stOf r.protests n)) hr her hps hpr hq rfl rfl rfl
  generalize caseR o (stOf r.protests n) = o1 at *
  have hin := (qE_parts h1).2
  have hw := (hW [] (stOf r.protests n) (fun b => rfl)).1
  have hu := runners_uniq hB p
  have hB2 := fu_bounds hB hin none 0
  refine ⟨hB, h1, by rw [prizesL_len]; exact hB2.many, ?_⟩
  obtain ⟨z, hz, e⟩ := List.any_eq_true.1 h2
  obtain ⟨q, hq2, rfl⟩ := List.mem_iff_getElem.1 hz
  have hg : ∀ i, i < (prizesL (fuOf o1 p none 0)).length → (prizesL (fuOf o1 p none 0)).getD i default = ⟨((runners o1 p).getD i default).bird, wonAt (wonL (fuOf o1 p none 0) []) ((runners o1 p).getD i default).bird, shareI (resI (fuOf o1 p none 0) []) (runners o1 p).length i⟩ := fun i hi => by
    rw [prizesL_len] at hi
    unfold prizesL
    rw [List.getD_eq_getElem?_getD, List.getElem?_map, List.getElem?_range hi]
    rfl
  have e2 : ((prizesL (fuOf o1 p none 0)).getD q default).bird = b := by
    rw [List.getD_eq_getElem?_getD, List.getElem?_eq_getElem hq2]
    simpa using e
  refine ⟨q, hq2, e2, fun m hm hne => ?_, ?_⟩
  · rw [hg m hm]
    rw [hg q hq2] at e2
    dsimp only at e2 ⊢
    rw [← e2]
    intro e3
    rw [prizesL_len] at hm hq2
    have hm' : m < (runners o1 p).length := hm
    have hq' : q < (runners o1 p).length := hq2
    have a : (runners o1 p).getD m default = (runners o1 p)[m] := by simp [List.getD_eq_getElem?_getD, hm']
    have c : (runners o1 p).getD q default = (runners o1 p)[q] := by simp [List.getD_eq_getElem?_getD, hq']
    rw [a, c] at e3
    rcases Nat.lt_or_ge m q with hh | hh
    · exact List.pairwise_iff_getElem.1 hu m q hm' hq' hh e3
    · exact List.pairwise_iff_getElem.1 hu q m hq' hm' (by omega) e3.symm
  · have e4 := hg q hq2
    rw [e4] at e2 ⊢
    dsimp only at e2 ⊢
    rw [e2, hw]
theorem case_G {r o : Ra} {p : Int} {n : Nat} (hr : raceB r = true) (her : o.racers.map rcP = r.racers.map rcP) (hps : o.pools.map poP = r.pools.map poP) (hpr : o.protests = r.protests) (hq : qE r p [] = 0) :
    raceB (caseR o (stOf r.protests n)) = true ∧ qE (caseR o (stOf r.protests n)) p [] = 0 ∧ orderL (fuOf (caseR o (stOf r.protests n)) p none 0) [] = orderL (fuOf r p none 0) (stOf r.protests n) := by
  obtain ⟨hB, hQ, hW⟩ := case_all (p := p) (o1 := caseR o (stOf r.protests n)) hr her hps hpr rfl rfl (List.nil_sublist _)
  exact ⟨hB, (hQ []).trans hq, (hW [] (stOf r.protests n) (fun b => rfl)).2⟩
end Go.Proofs.YtnkmcoljijmgpaaGreat

set_option linter.unusedSimpArgs false
set_option linter.unusedVariables false
namespace Go.Proofs.YtnkmcoljijmgpaaGreat
open Go.RowKit Go.Shelf Go.Sort Go.Maps
attribute [local go_sem] Oper.semAt_some
set_option maxRecDepth 100000 in
set_option maxHeartbeats 4000000 in
theorem res40 (tmps : Array Value) (w : World) (g : Nat) (n a b : Int) (h : tmps.getD 6 undef = .pointer (some ⟨g, 0, none⟩)) (h7 : tmps.getD 7 undef = .int .i64 n) (hB : Blk w g 62 #[.int .i64 a, .int .i64 b]) :
    (results Tryz.f40 tmps).run Tryz.prog w = .ok (.tuple #[.agg #[.int .i64 a, .int .i64 b], .int .i64 n]) w := by
  have c0 := hB.cell 0
  have c1 := hB.cell 1
  clear hB
  have hr : Tryz.f40.results = #[.cell 6 62, .tmp 7] := rfl
  have h' : tmps[6]?.getD undef = .pointer (some ⟨g, 0, none⟩) := by simpa using h
  have h7' : tmps[7]?.getD undef = .int .i64 n := by simpa using h7
  simp only [results, hr]
  go_simp
def CanRP (r : Ra) (p b : Int) (w : World) (e : Ending) (w' : World) : Prop := G w w' ∧ e = .returned (.tuple #[.agg #[.int .i64 (canT r p b).1, .int .i64 (canT r p b).2.1], .int .i64 (canT r p b).2.2])
/-- the case of a race, and its prizes, told for the walk -/
theorem pow64 {ps : List Int} (h : ps.length ≤ 4) : wrap64 ((2 : Int) ^ ps.length) = ((2 ^ ps.length : Nat) : Int) ∧ 2 ^ ps.length ≤ 16 := by
  have h16 : 2 ^ ps.length ≤ 16 := Nat.pow_le_pow_right (n := 2) (by decide) h
  refine ⟨?_, h16⟩
  have e : ((2 : Int) ^ ps.length) = ((2 ^ ps.length : Nat) : Int) := by simp
  rw [e]
  have h5 : ∀ N : Nat, N ≤ 16 → wrap64 (N : Int) = N := fun N h => IntWalk.wrap64_in _ (by omega)
  exact h5 _ h16
theorem przC (r : Ra) (p : Nat) (w : World) (h : r.At w) (hr : raceB r = true) (hq : qE r (p : Int) [] = 0) : Calls Tryz.prog 65 #[.agg r.v, .int .i64 (p : Nat)] w fun e w' => ∃ a c, e = .returned (.slice a (prizesL (fuOf r p none 0)).length c) ∧ RowE Pz.v 3 w' a (prizesL (fuOf r p none 0)) ∧ (∀ g o, a = some ⟨g, o, none⟩ → 0 < (prizesL (fuOf r p none 0)).length → w.heap.size ≤ g) ∧ G w w' := by
  obtain ⟨_, n, e, hn⟩ := q_in hq
  have hp : p < r.pools.length := by omega
  refine (prizes65_any r p w h hr hp).mono ?_
  rintro e w' ⟨v, rfl, ho, hG⟩
  obtain ⟨a, c, rfl, hI⟩ := own_rowE Pz.vs ho
  refine ⟨a, c, rfl, hI, fun g o e hl => ?_, hG⟩
  obtain ⟨g', cap, cur, he, _⟩ := own_some ho hl
  injection he with e1 _ _
  rw [e] at e1
  injection e1 with e1
  injection e1 with e1 e2 _
  subst e1 e2
  exact own_base ho (by rw [e]; rfl)
set_option maxRecDepth 100000 in
set_option maxHeartbeats 16000000 in
theorem rCan_any (r : Ra) (p b : Int) (w : World) (h : r.At w) (hn : r.Nil) : Calls Tryz.prog 40 #[.agg r.v, .int .i64 p, .int .i64 b] w (CanRP r p b w) := by
  have hrv : r.v = #[.slice r.ra r.racers.length r.rc, .slice r.pa r.pools.length r.pc, .slice r.ta r.protests.length r.tc] := rfl
  have HCK := Lib.hid (fun (W : World) (hW : G w W) => refc_any r p W (h.keep hW))
  have HE : Hid (qE r p [] ≠ 0 → ∀ W', G w W' → CanRP r p b w (.returned (.tuple #[.agg #[.int .i64 0, .int .i64 0], .int .i64 (qE r p [])])) W') := fun a W' hG => by
    refine ⟨hG, ?_⟩
    have e := qE_b0 b a
    unfold canT
    rw [if_neg (by rw [e]; exact a), e]
  have HE1 : Hid (qE r p [] = 0 → inL (namedL r p) b = false → ∀ W', G w W' → CanRP r p b w (.returned (.tuple #[.agg #[.int .i64 0, .int .i64 0], .int .i64 1])) W') := fun a c W' hG => by
    refine ⟨hG, ?_⟩
    have e := qE_b1 (b := b) a
    rw [c] at e
    unfold canT
    rw [if_neg (by rw [e]; decide), e]
    rfl
  have HS : Hid (qE r p [b] = 0 → ∀ W' lo hi, G w W' → lo = canLo (fuOf r p none 0) b (caseL r.protests) → hi = canHi (fuOf r p none 0) b (caseL r.protests) → CanRP r p b w (.returned (.tuple #[.agg #[.int .i64 lo, .int .i64 hi], .int .i64 0])) W') := fun a W' lo hi hG e1 e2 => by
    refine ⟨hG, ?_⟩
    rw [canOk a, e1, e2]
  generalize CanRP r p b w = PP at *
  have HNA := Lib.hid (fun (W : World) (hW : G w W) => naQ0 r p (namedL r p).length W (h.keep hW) rfl)
  have HNL : Hid ((namedL r p).length ≤ 1000) := by
    show (namedL r p).length ≤ 1000
    unfold namedL
    rw [List.length_map]
    have := runners_len r p
    have := h.nr
    omega
  have HC3 : Hid (raceB r = true → ∀ (n : Nat) (W : World), G w W → Calls Tryz.prog 30 #[.agg #[.slice r.ra r.racers.length r.rc, .slice r.pa r.pools.length r.pc, .slice r.ta r.protests.length r.tc], .int .i64 (n : Nat)] W fun e w' => G W w' ∧ ∃ o : Ra, e = .returned (.agg #[.slice o.ra o.racers.length o.rc, .slice o.pa o.pools.length o.pc, .slice none 0 0]) ∧ o.racers.map rcP = r.racers.map rcP ∧ o.pools.map poP = r.pools.map poP ∧ o.protests = r.protests ∧ (caseR o (stOf r.protests n)).At w') := fun hr n W hW => Case_any r n W (h.keep hW) hn hr
  rw [hrv] at HCK HNA ⊢
  clear h hn hrv
  obtain ⟨W1, hW1⟩ : ∃ W1, W1 = (w.alloc (.cells #[.slice r.ra r.racers.length r.rc, .slice r.pa r.pools.length r.pc, .slice r.ta r.protests.length r.tc] 26)).alloc (.cells #[.int .i64 0, .int .i64 0] 62) := ⟨_, rfl⟩
  have g1 : G w W1 := by rw [hW1]; exact ((G.rf _).a _).a _
  have b0 : Blk W1 w.heap.size 26 #[.slice r.ra r.racers.length r.rc, .slice r.pa r.pools.length r.pc, .slice r.ta r.protests.length r.tc] := by rw [hW1]; exact (Blk.new _ _ _).alloc _
  have b1 : Blk W1 (w.heap.size + 1) 62 #[.int .i64 0, .int .i64 0] := by rw [hW1]; exact Blk.new1 _ _ _ _
  have m0 := b0.cell 0
  have m1 := b0.cell 1
  have m2 := b0.cell 2
  have l0 := b0.lt
  go_enter Tryz.func40, Tryz.ntmps40
  go_upto_region 1 with fail
  change Code.wp _ _ _ _ ((w.alloc (.cells #[.slice r.ra r.racers.length r.rc, .slice r.pa r.pools.length r.pc, .slice r.ta r.protests.length r.tc] 26)).alloc (.cells #[.int .i64 0, .int .i64 0] 62))
  rw [← hW1]
  clear hW1
  by_cases hq : qE r p [] = 0
  rotate_left
  · have HE2 := Lib.hid (HE.out hq)
    generalize qE r p [] = QE at *
    have e0 : (QE == 0) = false := by simpa using hq
    have e1 : (QE != 0) = true := by simpa using hq
    clear HE HE1 HS HNA HC3 HNL
    go_upto_region 3 with (go_at_call 63; refine (HCK.out _ g1).mono ?_; rintro e w2 ⟨rfl, hG2⟩)
    have b2 := b1.keep hG2
    have g2 := g1.t hG2
    clear m0 m1 m2 l0 b1 b0 HCK
    have c0 := b2.cell 0
    have c1 := b2.cell 1
    have z0 := b2.frozen 0
    have z1 := b2.frozen 1
    have lz := b2.lt
    go_wp2_with fail
    have bE := (b2.set_ 0 (.int .i64 0)).set_ 1 (.int .i64 0)
    simp only [List.setIfInBounds_toArray, List.set_cons_zero, List.set_cons_succ] at bE
    refine bodyPost_ret (res40 _ _ (w.heap.size + 1) QE 0 0 rfl rfl bE) rfl ?_
    exact HE2.out _ ((g2.s (p := ⟨w.heap.size + 1, 0, none⟩) (Nat.le_succ _) _).s (p := ⟨w.heap.size + 1, 1, none⟩) (Nat.le_succ _) _)
  have HQ0 := Lib.hid hq
  obtain ⟨hrb, pn, hpn, hpl⟩ := q_in hq
  subst hpn
  have hqE : qE r (pn : Int) [] = 0 := hq
  rw [hqE] at HCK
  cases hIN : inL (namedL r pn) b
  · have HE2 := Lib.hid (HE1.out hq hIN)
    clear HE HE1 HS HC3 hq hqE
    go_upto_region 5 with (first | (go_at_call 63; refine (HCK.out _ g1).mono ?_; rintro e w2 ⟨rfl, hG2⟩; clear m0 m1 m2 l0; have m0 := (b0.keep hG2).cell 0; have m1 := (b0.keep hG2).cell 1; have m2 := (b0.keep hG2).cell 2; have l0 := (b0.keep hG2).lt) | (go_at_call 16; refine (HNA.out _ (g1.t hG2)).mono ?_; rintro e w3 ⟨hG3, na, nc, rfl, hni⟩) | (go_at_call 28; refine (In_any _ _ _ _ _ hni HNL.out).mono ?_; rw [hIN]; rintro e w4 ⟨rfl, hG4⟩))
    have ga := (hG2.t hG3).t hG4
    have b2 := b1.keep ga
    have g2 := g1.t ga
    clear m0 m1 m2 l0 b1 b0 HCK HNA hni
    have c0 := b2.cell 0
    have c1 := b2.cell 1
    have z0 := b2.frozen 0
    have z1 := b2.frozen 1
    have lz := b2.lt
    go_wp2_with fail
    have bE := (b2.set_ 0 (.int .i64 0)).set_ 1 (.int .i64 0)
    simp only [List.setIfInBounds_toArray, List.set_cons_zero, List.set_cons_succ] at bE
    refine bodyPost_ret (res40 _ _ (w.heap.size + 1) 1 0 0 rfl rfl bE) rfl ?_
    exact HE2.out _ ((g2.s (p := ⟨w.heap.size + 1, 0, none⟩) (Nat.le_succ _) _).s (p := ⟨w.heap.size + 1, 1, none⟩) (Nat.le_succ _) _)
  have hqb := named_q hq hIN
  have hnp := race_np hrb
  obtain ⟨hw64, h16⟩ := pow64 hnp
  have HCM := Lib.hid (HC3.out hrb)
  have HSS := Lib.hid (HS.out hqb)
  have HQB := Lib.hid hqb
  have HRB := Lib.hid hrb
  obtain ⟨l1, U1, hU1, e1⟩ := can_lo (fuOf r pn none 0) b r.protests
  obtain ⟨l2, U2, hU2, e2⟩ := can_hi (fuOf r pn none 0) b r.protests
  have hcase : ∀ U, U ∈ caseL r.protests ↔ ∃ j, j < 2 ^ r.protests.length ∧ stOf r.protests j = U := fun U => by
    unfold caseL
    rw [List.mem_map]
    exact ⟨fun ⟨j, hj, e⟩ => ⟨j, List.mem_range.1 hj, e⟩, fun ⟨j, hj, e⟩ => ⟨j, List.mem_range.2 hj, e⟩⟩
  obtain ⟨V, hV⟩ : ∃ V : Nat → Int, V = fun j => wonAt (wonL (fuOf r pn none 0) (stOf r.protests j)) b := ⟨_, rfl⟩
  have hV0 : ∀ j, 0 ≤ V j := fun j => by
    rw [hV]
    exact wonAt_nonneg (fu_facts hrb hpl none 0 (stOf r.protests j)).nonneg b
  have hfin := lowT_all (V := V) hV0 (NN := 2 ^ r.protests.length) (lo := canLo (fuOf r pn none 0) b (caseL r.protests)) (hi := canHi (fuOf r pn none 0) b (caseL r.protests)) (fun j hj => by
    rw [hV]
    exact ⟨l1 _ ((hcase _).2 ⟨j, hj, rfl⟩), l2 _ ((hcase _).2 ⟨j, hj, rfl⟩)⟩) (by
    obtain ⟨j, hj, rfl⟩ := (hcase _).1 hU1
    exact anyU_iff.2 ⟨j, hj, by rw [hV]; simpa using e1.symm⟩) (by
    obtain ⟨j, hj, rfl⟩ := (hcase _).1 hU2
    exact anyU_iff.2 ⟨j, hj, by rw [hV]; simpa using e2.symm⟩)
  have HFIN := Lib.hid hfin
  have HV := Lib.hid hV
  have HVN := Lib.hid hV0
  obtain ⟨NN, hNN⟩ : ∃ NN, NN = 2 ^ r.protests.length := ⟨_, rfl⟩
  rw [← hNN] at hw64 h16 HFIN
  have HW64 := Lib.hid hw64
  clear HE HE1 HS HC3 hq hqE hqb hrb l1 l2 hU1 hU2 e1 e2 hcase hfin hV hV0 hNN hw64
  go_upto_region 6 with (first | (go_at_call 63; refine (HCK.out _ g1).mono ?_; rintro e w2 ⟨rfl, hG2⟩; clear m0 m1 m2 l0; have m0 := (b0.keep hG2).cell 0; have m1 := (b0.keep hG2).cell 1; have m2 := (b0.keep hG2).cell 2; have l0 := (b0.keep hG2).lt) | (go_at_call 16; refine (HNA.out _ (g1.t hG2)).mono ?_; rintro e w3 ⟨hG3, na, nc, rfl, hni⟩) | (go_at_call 28; refine (In_any _ _ _ _ _ hni HNL.out).mono ?_; rw [hIN]; rintro e w4 ⟨rfl, hG4⟩))
  have ga := (hG2.t hG3).t hG4
  have b2 := b1.keep ga
  have g2 := g1.t ga
  have b02 := b0.keep ga
  clear m0 m1 m2 l0 b1 b0 HCK HNA hni hG2 hG3 hG4 ga hIN HNL
  go_upto_region 7 with fail
  obtain ⟨W6, hW6⟩ : ∃ W6, W6 = w4.alloc (.cells #[.int .i64 (-1), .int .i64 0] 62) := ⟨_, rfl⟩
  obtain ⟨K, hK⟩ : ∃ K, K = w4.heap.size := ⟨_, rfl⟩
  change Code.wp _ _ _ _ (w4.alloc (.cells #[.int .i64 (-1), .int .i64 0] 62))
  have bK : Blk W6 K 62 #[.int .i64 (-1), .int .i64 0] := by rw [hW6, hK]; exact Blk.new _ _ _
  have gb : G w4 W6 := by rw [hW6]; exact (G.rf _).a _
  have hKw : w.heap.size + 1 < K := by rw [hK]; exact b2.lt
  rw [← hW6, ← hK]
  have g6 := g2.t gb
  have HB6 := Lib.hid (b02.keep gb)
  have HR6 := Lib.hid (b2.keep gb)
  clear hW6 hK gb b2 b02 g2 g1
  go_wp2_with fail
  go_loopw [10] (fun i wr => ∃ (n : Nat) (lo hi : Int), n ≤ NN ∧ i = .int .i64 n ∧ Hid (lo = lowT V n) ∧ Hid (hi = highT V n) ∧ Hid (Blk wr K 62 #[.int .i64 lo, .int .i64 hi]) ∧ Hid (Fr (fun i => i = K) W6 wr)) (fun i _ => NN - (intOf i).toNat)
  case atStart => exact ⟨0, -1, 0, Nat.zero_le _, rfl, rfl, rfl, bK, Fr.rf _ _⟩
  case round =>
    clear bK
    obtain ⟨n, lo, hi, hnn, rfl, HLO, HHI, HBK, HF⟩ := hrel
    obtain ⟨wn, rfl⟩ : ∃ wn, wn = wr := ⟨_, rfl⟩
    have hbn := HF.out.blk HB6.out (by omega)
    have gn : G w wn := ((G.fr (R := fun _ => False) g6).t2 HF.out (fun i hi e => by have e2 : i = K := e; omega)).toG (fun _ _ h => h)
    have m0 := hbn.cell 0
    have m1 := hbn.cell 1
    have m2 := hbn.cell 2
    have l0 := hbn.lt
    have hw64 := HW64.out
    by_cases hlt : n < NN
    rotate_left
    · obtain rfl : n = NN := by omega
      have hki : ¬ ((n : Nat) : Int) < n := by omega
      have brn := HF.out.blk HR6.out (by omega)
      have e1 : lo = canLo (fuOf r pn none 0) b (caseL r.protests) := HLO.out.trans HFIN.out.1
      have e2 : hi = canHi (fuOf r pn none 0) b (caseL r.protests) := HHI.out.trans HFIN.out.2
      have HFF := Lib.hid (fun (W : World) (hW : G w W) => HSS.out W lo hi hW e1 e2)
      have k0 := HBK.out.cell 0
      have k1 := HBK.out.cell 1
      have lk := HBK.out.lt
      have c0 := brn.cell 0
      have c1 := brn.cell 1
      have z0 := brn.frozen 0
      have z1 := brn.frozen 1
      have lz := brn.lt
      clear e1 e2 HLO HHI HF HSS HFIN
      go_wp2_with fail
      have bE := (brn.set_ 0 (.int .i64 lo)).set_ 1 (.int .i64 hi)
      simp only [List.setIfInBounds_toArray, List.set_cons_zero, List.set_cons_succ] at bE
      refine bodyPost_ret (res40 _ _ (w.heap.size + 1) 0 lo hi rfl rfl bE) rfl ?_
      exact HFF.out _ ((gn.s (p := ⟨w.heap.size + 1, 0, none⟩) (Nat.le_succ _) _).s (p := ⟨w.heap.size + 1, 1, none⟩) (Nat.le_succ _) _)
    have hki : (n : Int) < NN := by omega
    have HCN := Lib.hid (HCM.out n wn gn)
    go_upto_region 11 with (first | (go_at_call 30; refine (HCN.out).mono ?_; rintro e w5 ⟨hG5, o, rfl, her, hps, hpr, hAT⟩; obtain ⟨hB1, hq1, hl12, q, hZ⟩ := case_Z (n := n) HRB.out her hps hpr HQB.out; have hPZ := przC (caseR o (stOf r.protests n)) pn w5 hAT hB1 hq1; rw [caseR_v] at hPZ; obtain ⟨ZL, hZL⟩ : ∃ ZL, ZL = prizesL (fuOf (caseR o (stOf r.protests n)) pn none 0) := ⟨_, rfl⟩; rw [← hZL] at hPZ hZ hl12; have HPZ := Lib.hid hPZ; clear hZL hPZ hAT hB1 hq1 hw64) | (go_at_call 65; refine (HPZ.out).mono ?_; rintro e w6 ⟨sa, sc, rfl, hzi, hnb, hG6⟩))
    clear m0 m1 m2 l0
    have hVn : (ZL.getD q default).won = V n := by rw [hZ.won, HV.out]
    have hv0 := HVN.out n
    have HZ := Lib.hid hZ
    have hql := hZ.lt
    obtain ⟨vn, hvn⟩ : ∃ vn, vn = V n := ⟨_, rfl⟩
    rw [← hvn] at hVn hv0
    have HL1 : Hid (lowT V (n + 1) = if lo < 0 ∨ vn < lo then vn else lo) := by
      show _ = _
      rw [hvn, HLO.out]
      rfl
    have HH1 : Hid (highT V (n + 1) = max hi vn) := by
      show _ = _
      rw [hvn, HHI.out]
      rfl
    have HVQ := Lib.hid hVn
    have g56 := hG5.t hG6
    have HF6 := Lib.hid (HF.out.g g56)
    have HB6x := Lib.hid (HBK.out.keep g56)
    have lK5 : K < w5.heap.size := Nat.lt_of_lt_of_le HBK.out.lt hG5.size
    have HNK : Hid (∀ g o, sa = some ⟨g, o, none⟩ → 0 < ZL.length → g ≠ K) := fun g o e hl e2 => by have := hnb g o e hl; omega
    have HZI := Lib.hid hzi
    obtain ⟨lo', hlo'⟩ : ∃ lo', lo' = if lo < 0 ∨ vn < lo then vn else lo := ⟨_, rfl⟩
    obtain ⟨hi', hhi'⟩ : ∃ hi', hi' = max hi vn := ⟨_, rfl⟩
    rw [← hlo'] at HL1
    rw [← hhi'] at HH1
    have HLO' := Lib.hid hlo'
    have HHI' := Lib.hid hhi'
    clear hlo' hhi' hzi hnb hVn hvn hZ HF HBK HLO HHI hG5 hG6 g56 HPZ her hps hpr
    go_wp2_with fail
    go_loopw [12] (fun i wr => ∃ (m : Nat) (lo2 hi2 : Int), m ≤ ZL.length ∧ i = .int .i64 m ∧ Hid (lo2 = if q < m then lo' else lo) ∧ Hid (hi2 = if q < m then hi' else hi) ∧ Hid (Blk wr K 62 #[.int .i64 lo2, .int .i64 hi2]) ∧ Hid (Fr (fun i => i = K) w6 wr)) (fun i _ => ZL.length - (intOf i).toNat)
    case atStart => exact ⟨0, lo, hi, Nat.zero_le _, rfl, by show _ = _; rw [if_neg (by omega)], by show _ = _; rw [if_neg (by omega)], HB6x.out, Fr.rf _ _⟩
    case round =>
      obtain ⟨m, lo2, hi2, hm, rfl, HLM, HHM, HBK, HF⟩ := hrel
      obtain ⟨wm, rfl⟩ : ∃ wm, wm = wr := ⟨_, rfl⟩
      by_cases hml : m < ZL.length
      rotate_left
      · obtain rfl : m = ZL.length := by omega
        have hmi : ¬ ((ZL.length : Nat) : Int) < ZL.length := by omega
        have HLE : Hid (lo2 = lowT V (n + 1)) := by show _ = _; rw [HL1.out, HLM.out, if_pos hql]
        have HHE : Hid (hi2 = highT V (n + 1)) := by show _ = _; rw [HH1.out, HHM.out, if_pos hql]
        have HFX := Lib.hid (HF6.out.t HF.out)
        clear HLM HHM HF
        go_wp2_with fail
        go_roundw
        case rel => exact ⟨n + 1, lo2, hi2, by omega, by go_num, HLE.out, HHE.out, HBK.out, HFX.out⟩
        case measure => simp [intOf] <;> omega
      have hmi : (m : Int) < ZL.length := by omega
      rcases HZI.out with hx | ⟨gs, ofs, hse, hgs, hsc⟩
      · omega
      have hcm := hsc m hml
      have hgsK : gs ≠ K := HNK.out gs ofs hse (by omega)
      have hsm : ∀ u, wm.cell? ⟨gs, u, none⟩ = w6.cell? ⟨gs, u, none⟩ := fun u => by
        have e := HF.out.block gs hgs hgsK
        simp only [World.cell?]
        rw [e]
      have c0 : wm.cell? ⟨gs, ofs + m * 3, none⟩ = some (.int .i64 (ZL.getD m default).bird) := (hsm _).trans (hcm 0 (by omega))
      have c1 : wm.cell? ⟨gs, ofs + m * 3 + 1, none⟩ = some (.int .i64 (ZL.getD m default).won) := (hsm _).trans (hcm 1 (by omega))
      have ls : gs < wm.heap.size := Nat.lt_of_lt_of_le hgs HF.out.size
      subst hse
      by_cases hmq : m = q
      rotate_left
      · have hb := HZ.out.no m hml hmq
        obtain ⟨xb, hxb⟩ : ∃ xb, xb = (ZL.getD m default).bird := ⟨_, rfl⟩
        rw [← hxb] at c0 hb
        have hbb : (xb != b) = true := by simpa using hb
        have HLN : Hid (lo2 = if q < m + 1 then lo' else lo) := by
          show _ = _
          rw [HLM.out]
          by_cases h1 : q < m
          · rw [if_pos h1, if_pos (by omega)]
          · rw [if_neg h1, if_neg (by omega)]
        have HHN : Hid (hi2 = if q < m + 1 then hi' else hi) := by
          show _ = _
          rw [HHM.out]
          by_cases h1 : q < m
          · rw [if_pos h1, if_pos (by omega)]
          · rw [if_neg h1, if_neg (by omega)]
        clear hsm hcm hsc hxb hb HLM HHM c1
        go_wp2_with fail
        go_roundw
        case rel => exact ⟨m + 1, lo2, hi2, by omega, by go_num, HLN.out, HHN.out, HBK.out, HF.out⟩
        case measure => simp [intOf] <;> omega
      · subst hmq
        rw [HZ.out.is] at c0
        rw [HVQ.out] at c1
        have hlo2 : lo2 = lo := by rw [HLM.out, if_neg (by omega)]
        have hhi2 : hi2 = hi := by rw [HHM.out, if_neg (by omega)]
        rw [hlo2, hhi2] at HBK
        have HHN : Hid (hi' = if m < m + 1 then hi' else hi) := by show _ = _; rw [if_pos (by omega)]
        have hbb : (b != b) = false := by simp
        clear hsm hcm hsc hlo2 hhi2 HLM HHM
        have k0 := HBK.out.cell 0
        have y0 := HBK.out.frozen 0
        have lK := HBK.out.lt
        go_upto_region 15 with fail
        clear c0
        by_cases hl0 : lo < 0
        · have hlb : decide (lo < 0) = true := decide_eq_true hl0
          have hLe : lo' = vn := by rw [HLO'.out, if_pos (.inl hl0)]
          have HLN : Hid (vn = if m < m + 1 then lo' else lo) := by show _ = _; rw [if_pos (by omega)]; exact hLe.symm
          refine wp_region_Y (S := fun W' => G wm W') 12 13 rfl (by kernel_rfl) (G.rf _).d (fun hS => ?_)
          have gd : G wm wm.drew := (G.rf _).d
          generalize wm.drew = WD at *
          refine wpAnyY_take (i := 0) (v := ?_) rfl (by kernel_rfl) (by kernel_rfl) (by kernel_rfl) (by kernel_rfl) (fun _ _ _ h => h) (Or.inl ⟨by kernel_rfl, ?_⟩) hS ?_
          rotate_left
          · intro w' hSw; go_simp; with_reducible rfl
          try simp only [Act.put, List.getElem_toArray, List.getElem_cons_zero, List.getElem_cons_succ, List.setIfInBounds_toArray, List.set_cons_zero, List.set_cons_succ]
          refine wpAnyY_take (i := 1) (v := ?_) rfl (by kernel_rfl) (by kernel_rfl) (by kernel_rfl) (by kernel_rfl) (fun _ _ _ h => h) (Or.inl ⟨by kernel_rfl, ?_⟩) hS ?_
          rotate_left
          · intro w' hSw; have s0 := ((bcellB hSw).1 K _ lK).trans k0; have s1 : K < w'.heap.size := Nat.lt_of_lt_of_le lK hSw.size; go_simp; with_reducible rfl
          try simp only [Act.put, List.getElem_toArray, List.getElem_cons_zero, List.getElem_cons_succ, List.setIfInBounds_toArray, List.set_cons_zero, List.set_cons_succ]
          refine wpAnyY_take (i := 2) (v := ?_) rfl (by kernel_rfl) (by kernel_rfl) (by kernel_rfl) (by kernel_rfl) (fun _ _ _ h => h) (Or.inl ⟨by kernel_rfl, ?_⟩) hS ?_
          rotate_left
          · intro w' hSw; go_simp; with_reducible rfl
          try simp only [Act.put, List.getElem_toArray, List.getElem_cons_zero, List.getElem_cons_succ, List.setIfInBounds_toArray, List.set_cons_zero, List.set_cons_succ]
          refine wpAnyY_take (i := 3) (v := ?_) rfl (by kernel_rfl) (by kernel_rfl) (by kernel_rfl) (by kernel_rfl) (fun _ _ _ h => h) (Or.inl ⟨by kernel_rfl, ?_⟩) hS ?_
          rotate_left
          · intro w' hSw; go_simp; with_reducible rfl
          try simp only [Act.put, List.getElem_toArray, List.getElem_cons_zero, List.getElem_cons_succ, List.setIfInBounds_toArray, List.set_cons_zero, List.set_cons_succ]
          refine wpAnyY_take (i := 4) (v := undef) rfl (by kernel_rfl) (by kernel_rfl) (by kernel_rfl) (by kernel_rfl) (fun _ _ _ h => h) (Or.inr ⟨by kernel_rfl, rfl⟩) hS ?_
          try simp only [Act.put, List.getElem_toArray, List.getElem_cons_zero, List.getElem_cons_succ, List.setIfInBounds_toArray, List.set_cons_zero, List.set_cons_succ]
          refine wpAnyY_take (i := 5) (v := undef) rfl (by kernel_rfl) (by kernel_rfl) (by kernel_rfl) (by kernel_rfl) (fun _ _ _ h => h) (Or.inr ⟨by kernel_rfl, rfl⟩) hS ?_
          try simp only [Act.put, List.getElem_toArray, List.getElem_cons_zero, List.getElem_cons_succ, List.setIfInBounds_toArray, List.set_cons_zero, List.set_cons_succ]
          refine wpAnyY_take (i := 6) (v := undef) rfl (by kernel_rfl) (by kernel_rfl) (by kernel_rfl) (by kernel_rfl) (fun _ _ _ h => h) (Or.inr ⟨by kernel_rfl, rfl⟩) hS ?_
          try simp only [Act.put, List.getElem_toArray, List.getElem_cons_zero, List.getElem_cons_succ, List.setIfInBounds_toArray, List.set_cons_zero, List.set_cons_succ]
          refine wpAnyY_take (i := 7) (v := undef) rfl (by kernel_rfl) (by kernel_rfl) (by kernel_rfl) (by kernel_rfl) (fun _ _ _ h => h) (Or.inr ⟨by kernel_rfl, rfl⟩) hS ?_
          try simp only [Act.put, List.getElem_toArray, List.getElem_cons_zero, List.getElem_cons_succ, List.setIfInBounds_toArray, List.set_cons_zero, List.set_cons_succ]
          refine wpAnyY_take (i := 8) (v := undef) rfl (by kernel_rfl) (by kernel_rfl) (by kernel_rfl) (by kernel_rfl) (fun _ _ _ h => h) (Or.inr ⟨by kernel_rfl, rfl⟩) hS ?_
          try simp only [Act.put, List.getElem_toArray, List.getElem_cons_zero, List.getElem_cons_succ, List.setIfInBounds_toArray, List.set_cons_zero, List.set_cons_succ]
          refine wpAnyY_take (i := 9) (v := undef) rfl (by kernel_rfl) (by kernel_rfl) (by kernel_rfl) (by kernel_rfl) (fun _ _ _ h => h) (Or.inr ⟨by kernel_rfl, rfl⟩) hS ?_
          try simp only [Act.put, List.getElem_toArray, List.getElem_cons_zero, List.getElem_cons_succ, List.setIfInBounds_toArray, List.set_cons_zero, List.set_cons_succ]
          refine wpAnyY_take (i := 10) (v := undef) rfl (by kernel_rfl) (by kernel_rfl) (by kernel_rfl) (by kernel_rfl) (fun _ _ _ h => h) (Or.inr ⟨by kernel_rfl, rfl⟩) hS ?_
          try simp only [Act.put, List.getElem_toArray, List.getElem_cons_zero, List.getElem_cons_succ, List.setIfInBounds_toArray, List.set_cons_zero, List.set_cons_succ]
          refine wpAnyY_take (i := 11) (v := undef) rfl (by kernel_rfl) (by kernel_rfl) (by kernel_rfl) (by kernel_rfl) (fun _ _ _ h => h) (Or.inr ⟨by kernel_rfl, rfl⟩) hS ?_
          try simp only [Act.put, List.getElem_toArray, List.getElem_cons_zero, List.getElem_cons_succ, List.setIfInBounds_toArray, List.set_cons_zero, List.set_cons_succ]
          refine wpAnyY_oneW (i := 12) (by kernel_rfl) rfl (by kernel_rfl) (by kernel_rfl) (fun K12 hK12 => ?_)
          go_simp
          refine hK12.out _ _ ?_
          clear hK12
          try simp only [Act.put, List.getElem_toArray, List.getElem_cons_zero, List.getElem_cons_succ, List.setIfInBounds_toArray, List.set_cons_zero, List.set_cons_succ]
          refine wpAnyY_done (by kernel_rfl) ?_ _
          have c1d := ((bcellB gd).1 gs _ ls).trans c1
          have k0d := ((bcellB gd).1 K _ lK).trans k0
          have y0d := ((bcellB gd).2 K _ lK).trans y0
          have lsd : gs < WD.heap.size := Nat.lt_of_lt_of_le ls gd.size
          have lKd : K < WD.heap.size := Nat.lt_of_lt_of_le lK gd.size
          have HBD := Lib.hid (HBK.out.keep gd)
          have HFD := Lib.hid (HF.out.g gd)
          clear hS hl0 hLe c1 k0 y0 ls lK HBK HF gd
          go_upto_region 17 with fail
          have bN := HBD.out.set_ 0 (.int .i64 vn)
          simp only [List.setIfInBounds_toArray, List.set_cons_zero, List.set_cons_succ] at bN
          have fN := HFD.out.s (p := ⟨K, 0, none⟩) (.inl rfl) (.int .i64 vn)
          have c1e : (WD.setCell ⟨K, 0, none⟩ (.int .i64 vn)).cell? ⟨gs, ofs + m * 3 + 1, none⟩ = some (.int .i64 vn) := (World.cell?_setCell_other _ _ _ _ (by intro h; simp only [Addr.mk.injEq] at h; omega)).trans c1d
          have lse : gs < (WD.setCell ⟨K, 0, none⟩ (.int .i64 vn)).heap.size := by rw [World.size_setCell]; exact lsd
          generalize WD.setCell ⟨K, 0, none⟩ (.int .i64 vn) = WE at *
          have HBE := Lib.hid bN
          have HFE := Lib.hid fN
          clear bN fN k0d y0d c1d lsd lKd
          have q1 := HBE.out.cell 1
          have q1f := HBE.out.frozen 1
          have lq := HBE.out.lt
          refine wp_region_Y (S := fun W' => G WE W') 9 10 rfl (by kernel_rfl) (G.rf _).d (fun hS => ?_)
          have gf : G WE WE.drew := (G.rf _).d
          generalize WE.drew = WF at *
          refine wpAnyY_take (i := 0) (v := ?_) rfl (by kernel_rfl) (by kernel_rfl) (by kernel_rfl) (by kernel_rfl) (fun _ _ _ h => h) (Or.inl ⟨by kernel_rfl, ?_⟩) hS ?_
          rotate_left
          · intro w' hSw; go_simp; with_reducible rfl
          try simp only [Act.put, List.getElem_toArray, List.getElem_cons_zero, List.getElem_cons_succ, List.setIfInBounds_toArray, List.set_cons_zero, List.set_cons_succ]
          refine wpAnyY_take (i := 1) (v := ?_) rfl (by kernel_rfl) (by kernel_rfl) (by kernel_rfl) (by kernel_rfl) (fun _ _ _ h => h) (Or.inl ⟨by kernel_rfl, ?_⟩) hS ?_
          rotate_left
          · intro w' hSw; have s0 := ((bcellB hSw).1 K _ lq).trans q1; have s1 : K < w'.heap.size := Nat.lt_of_lt_of_le lq hSw.size; go_simp; with_reducible rfl
          try simp only [Act.put, List.getElem_toArray, List.getElem_cons_zero, List.getElem_cons_succ, List.setIfInBounds_toArray, List.set_cons_zero, List.set_cons_succ]
          refine wpAnyY_take (i := 2) (v := ?_) rfl (by kernel_rfl) (by kernel_rfl) (by kernel_rfl) (by kernel_rfl) (fun _ _ _ h => h) (Or.inl ⟨by kernel_rfl, ?_⟩) hS ?_
          rotate_left
          · intro w' hSw; go_simp; with_reducible rfl
          try simp only [Act.put, List.getElem_toArray, List.getElem_cons_zero, List.getElem_cons_succ, List.setIfInBounds_toArray, List.set_cons_zero, List.set_cons_succ]
          refine wpAnyY_take (i := 3) (v := ?_) rfl (by kernel_rfl) (by kernel_rfl) (by kernel_rfl) (by kernel_rfl) (fun _ _ _ h => h) (Or.inl ⟨by kernel_rfl, ?_⟩) hS ?_
          rotate_left
          · intro w' hSw; go_simp; with_reducible rfl
          try simp only [Act.put, List.getElem_toArray, List.getElem_cons_zero, List.getElem_cons_succ, List.setIfInBounds_toArray, List.set_cons_zero, List.set_cons_succ]
          refine wpAnyY_take (i := 4) (v := ?_) rfl (by kernel_rfl) (by kernel_rfl) (by kernel_rfl) (by kernel_rfl) (fun _ _ _ h => h) (Or.inl ⟨by kernel_rfl, ?_⟩) hS ?_
          rotate_left
          · intro w' hSw; go_simp; with_reducible rfl
          try simp only [Act.put, List.getElem_toArray, List.getElem_cons_zero, List.getElem_cons_succ, List.setIfInBounds_toArray, List.set_cons_zero, List.set_cons_succ]
          refine wpAnyY_take (i := 5) (v := ?_) rfl (by kernel_rfl) (by kernel_rfl) (by kernel_rfl) (by kernel_rfl) (fun _ _ _ h => h) (Or.inl ⟨by kernel_rfl, ?_⟩) hS ?_
          rotate_left
          · intro w' hSw; go_simp; with_reducible rfl
          try simp only [Act.put, List.getElem_toArray, List.getElem_cons_zero, List.getElem_cons_succ, List.setIfInBounds_toArray, List.set_cons_zero, List.set_cons_succ]
          refine wpAnyY_take (i := 6) (v := ?_) rfl (by kernel_rfl) (by kernel_rfl) (by kernel_rfl) (by kernel_rfl) (fun _ _ _ h => h) (Or.inl ⟨by kernel_rfl, ?_⟩) hS ?_
          rotate_left
          · intro w' hSw; have s0 := ((bcellB hSw).1 gs _ lse).trans c1e; have s1 : gs < w'.heap.size := Nat.lt_of_lt_of_le lse hSw.size; go_simp; with_reducible rfl
          try simp only [Act.put, List.getElem_toArray, List.getElem_cons_zero, List.getElem_cons_succ, List.setIfInBounds_toArray, List.set_cons_zero, List.set_cons_succ]
          refine wpAnyY_take (i := 7) (v := ?_) rfl (by kernel_rfl) (by kernel_rfl) (by kernel_rfl) (by kernel_rfl) (fun _ _ _ h => h) (Or.inl ⟨by kernel_rfl, ?_⟩) hS ?_
          rotate_left
          · intro w' hSw; have hmx := max2 hi vn; go_simp; with_reducible rfl
          try simp only [Act.put, List.getElem_toArray, List.getElem_cons_zero, List.getElem_cons_succ, List.setIfInBounds_toArray, List.set_cons_zero, List.set_cons_succ]
          refine wpAnyY_take (i := 8) (v := ?_) rfl (by kernel_rfl) (by kernel_rfl) (by kernel_rfl) (by kernel_rfl) (fun _ _ _ h => h) (Or.inl ⟨by kernel_rfl, ?_⟩) hS ?_
          rotate_left
          · intro w' hSw; go_simp; with_reducible rfl
          try simp only [Act.put, List.getElem_toArray, List.getElem_cons_zero, List.getElem_cons_succ, List.setIfInBounds_toArray, List.set_cons_zero, List.set_cons_succ]
          have q1d := ((bcellB gf).1 K _ lq).trans q1
          have q1fd := ((bcellB gf).2 K _ lq).trans q1f
          have lqd : K < WF.heap.size := Nat.lt_of_lt_of_le lq gf.size
          have HBF := Lib.hid (HBE.out.keep gf)
          have HFF := Lib.hid (HFE.out.g gf)
          clear hS
          refine wpAnyY_oneW (i := 9) (by kernel_rfl) rfl (by kernel_rfl) (by kernel_rfl) (fun K9 hK9 => ?_)
          go_simp
          refine hK9.out _ _ ?_
          clear hK9
          try simp only [Act.put, List.getElem_toArray, List.getElem_cons_zero, List.getElem_cons_succ, List.setIfInBounds_toArray, List.set_cons_zero, List.set_cons_succ]
          refine wpAnyY_done (by kernel_rfl) ?_ _
          have bM := HBF.out.set_ 1 (.int .i64 (max hi vn))
          simp only [List.setIfInBounds_toArray, List.set_cons_zero, List.set_cons_succ] at bM
          rw [← HHI'.out] at bM
          have HBM := Lib.hid bM
          have hfm := HFF.out.s (p := ⟨K, 1, none⟩) (.inl rfl) (.int .i64 (max hi vn))
          rw [← HHI'.out] at hfm
          have HFM := Lib.hid hfm
          clear bM hfm q1 q1f lq q1d q1fd lqd HBF HFF gf
          first | rw [← HHI'.out] | skip
          go_wp2_with fail
          go_roundw
          case rel => exact ⟨m + 1, vn, hi', by omega, by go_num, HLN.out, HHN.out, HBM.out, HFM.out⟩
          case measure => simp [intOf] <;> omega
        · have hlb : decide (lo < 0) = false := decide_eq_false hl0
          refine wp_region_Y (S := fun W' => G wm W') 12 13 rfl (by kernel_rfl) (G.rf _).d (fun hS => ?_)
          have gd : G wm wm.drew := (G.rf _).d
          generalize wm.drew = WD at *
          refine wpAnyY_take (i := 0) (v := ?_) rfl (by kernel_rfl) (by kernel_rfl) (by kernel_rfl) (by kernel_rfl) (fun _ _ _ h => h) (Or.inl ⟨by kernel_rfl, ?_⟩) hS ?_
          rotate_left
          · intro w' hSw; go_simp; with_reducible rfl
          try simp only [Act.put, List.getElem_toArray, List.getElem_cons_zero, List.getElem_cons_succ, List.setIfInBounds_toArray, List.set_cons_zero, List.set_cons_succ]
          refine wpAnyY_take (i := 1) (v := ?_) rfl (by kernel_rfl) (by kernel_rfl) (by kernel_rfl) (by kernel_rfl) (fun _ _ _ h => h) (Or.inl ⟨by kernel_rfl, ?_⟩) hS ?_
          rotate_left
          · intro w' hSw; have s0 := ((bcellB hSw).1 K _ lK).trans k0; have s1 : K < w'.heap.size := Nat.lt_of_lt_of_le lK hSw.size; go_simp; with_reducible rfl
          try simp only [Act.put, List.getElem_toArray, List.getElem_cons_zero, List.getElem_cons_succ, List.setIfInBounds_toArray, List.set_cons_zero, List.set_cons_succ]
          refine wpAnyY_take (i := 2) (v := ?_) rfl (by kernel_rfl) (by kernel_rfl) (by kernel_rfl) (by kernel_rfl) (fun _ _ _ h => h) (Or.inl ⟨by kernel_rfl, ?_⟩) hS ?_
          rotate_left
          · intro w' hSw; go_simp; with_reducible rfl
          try simp only [Act.put, List.getElem_toArray, List.getElem_cons_zero, List.getElem_cons_succ, List.setIfInBounds_toArray, List.set_cons_zero, List.set_cons_succ]
          refine wpAnyY_take (i := 3) (v := ?_) rfl (by kernel_rfl) (by kernel_rfl) (by kernel_rfl) (by kernel_rfl) (fun _ _ _ h => h) (Or.inl ⟨by kernel_rfl, ?_⟩) hS ?_
          rotate_left
          · intro w' hSw; go_simp; with_reducible rfl
          try simp only [Act.put, List.getElem_toArray, List.getElem_cons_zero, List.getElem_cons_succ, List.setIfInBounds_toArray, List.set_cons_zero, List.set_cons_succ]
          refine wpAnyY_take (i := 4) (v := ?_) rfl (by kernel_rfl) (by kernel_rfl) (by kernel_rfl) (by kernel_rfl) (fun _ _ _ h => h) (Or.inl ⟨by kernel_rfl, ?_⟩) hS ?_
          rotate_left
          · intro w' hSw; go_simp; with_reducible rfl
          try simp only [Act.put, List.getElem_toArray, List.getElem_cons_zero, List.getElem_cons_succ, List.setIfInBounds_toArray, List.set_cons_zero, List.set_cons_succ]
          refine wpAnyY_take (i := 5) (v := ?_) rfl (by kernel_rfl) (by kernel_rfl) (by kernel_rfl) (by kernel_rfl) (fun _ _ _ h => h) (Or.inl ⟨by kernel_rfl, ?_⟩) hS ?_
          rotate_left
          · intro w' hSw; go_simp; with_reducible rfl
          try simp only [Act.put, List.getElem_toArray, List.getElem_cons_zero, List.getElem_cons_succ, List.setIfInBounds_toArray, List.set_cons_zero, List.set_cons_succ]
          refine wpAnyY_take (i := 6) (v := ?_) rfl (by kernel_rfl) (by kernel_rfl) (by kernel_rfl) (by kernel_rfl) (fun _ _ _ h => h) (Or.inl ⟨by kernel_rfl, ?_⟩) hS ?_
          rotate_left
          · intro w' hSw; go_simp; with_reducible rfl
          try simp only [Act.put, List.getElem_toArray, List.getElem_cons_zero, List.getElem_cons_succ, List.setIfInBounds_toArray, List.set_cons_zero, List.set_cons_succ]
          refine wpAnyY_take (i := 7) (v := ?_) rfl (by kernel_rfl) (by kernel_rfl) (by kernel_rfl) (by kernel_rfl) (fun _ _ _ h => h) (Or.inl ⟨by kernel_rfl, ?_⟩) hS ?_
          rotate_left
          · intro w' hSw; go_simp; with_reducible rfl
          try simp only [Act.put, List.getElem_toArray, List.getElem_cons_zero, List.getElem_cons_succ, List.setIfInBounds_toArray, List.set_cons_zero, List.set_cons_succ]
          refine wpAnyY_take (i := 8) (v := ?_) rfl (by kernel_rfl) (by kernel_rfl) (by kernel_rfl) (by kernel_rfl) (fun _ _ _ h => h) (Or.inl ⟨by kernel_rfl, ?_⟩) hS ?_
          rotate_left
          · intro w' hSw; have s0 := ((bcellB hSw).1 gs _ ls).trans c1; have s1 : gs < w'.heap.size := Nat.lt_of_lt_of_le ls hSw.size; go_simp; with_reducible rfl
          try simp only [Act.put, List.getElem_toArray, List.getElem_cons_zero, List.getElem_cons_succ, List.setIfInBounds_toArray, List.set_cons_zero, List.set_cons_succ]
          refine wpAnyY_take (i := 9) (v := ?_) rfl (by kernel_rfl) (by kernel_rfl) (by kernel_rfl) (by kernel_rfl) (fun _ _ _ h => h) (Or.inl ⟨by kernel_rfl, ?_⟩) hS ?_
          rotate_left
          · intro w' hSw; go_simp; with_reducible rfl
          try simp only [Act.put, List.getElem_toArray, List.getElem_cons_zero, List.getElem_cons_succ, List.setIfInBounds_toArray, List.set_cons_zero, List.set_cons_succ]
          refine wpAnyY_take (i := 10) (v := ?_) rfl (by kernel_rfl) (by kernel_rfl) (by kernel_rfl) (by kernel_rfl) (fun _ _ _ h => h) (Or.inl ⟨by kernel_rfl, ?_⟩) hS ?_
          rotate_left
          · intro w' hSw; have s0 := ((bcellB hSw).1 K _ lK).trans k0; have s1 : K < w'.heap.size := Nat.lt_of_lt_of_le lK hSw.size; go_simp; with_reducible rfl
          try simp only [Act.put, List.getElem_toArray, List.getElem_cons_zero, List.getElem_cons_succ, List.setIfInBounds_toArray, List.set_cons_zero, List.set_cons_succ]
          refine wpAnyY_take (i := 11) (v := ?_) rfl (by kernel_rfl) (by kernel_rfl) (by kernel_rfl) (by kernel_rfl) (fun _ _ _ h => h) (Or.inl ⟨by kernel_rfl, ?_⟩) hS ?_
          rotate_left
          · intro w' hSw; go_simp; with_reducible rfl
          try simp only [Act.put, List.getElem_toArray, List.getElem_cons_zero, List.getElem_cons_succ, List.setIfInBounds_toArray, List.set_cons_zero, List.set_cons_succ]
          refine wpAnyY_oneW (i := 12) (by kernel_rfl) rfl (by kernel_rfl) (by kernel_rfl) (fun K12 hK12 => ?_)
          go_simp
          refine hK12.out _ _ ?_
          clear hK12
          try simp only [Act.put, List.getElem_toArray, List.getElem_cons_zero, List.getElem_cons_succ, List.setIfInBounds_toArray, List.set_cons_zero, List.set_cons_succ]
          refine wpAnyY_done (by kernel_rfl) ?_ _
          have c1d := ((bcellB gd).1 gs _ ls).trans c1
          have k0d := ((bcellB gd).1 K _ lK).trans k0
          have y0d := ((bcellB gd).2 K _ lK).trans y0
          have lsd : gs < WD.heap.size := Nat.lt_of_lt_of_le ls gd.size
          have lKd : K < WD.heap.size := Nat.lt_of_lt_of_le lK gd.size
          have HBD := Lib.hid (HBK.out.keep gd)
          have HFD := Lib.hid (HF.out.g gd)
          clear hS c1 k0 y0 ls lK HBK HF gd
          by_cases hvl : vn < lo
          · have hvb : decide (vn < lo) = true := decide_eq_true hvl
            have hLe : lo' = vn := by rw [HLO'.out, if_pos (.inr hvl)]
            have HLN : Hid (vn = if m < m + 1 then lo' else lo) := by show _ = _; rw [if_pos (by omega)]; exact hLe.symm
            clear hLe
            go_upto_region 17 with fail
            have bN := HBD.out.set_ 0 (.int .i64 vn)
            simp only [List.setIfInBounds_toArray, List.set_cons_zero, List.set_cons_succ] at bN
            have fN := HFD.out.s (p := ⟨K, 0, none⟩) (.inl rfl) (.int .i64 vn)
            have c1e : (WD.setCell ⟨K, 0, none⟩ (.int .i64 vn)).cell? ⟨gs, ofs + m * 3 + 1, none⟩ = some (.int .i64 vn) := (World.cell?_setCell_other _ _ _ _ (by intro h; simp only [Addr.mk.injEq] at h; omega)).trans c1d
            have lse : gs < (WD.setCell ⟨K, 0, none⟩ (.int .i64 vn)).heap.size := by rw [World.size_setCell]; exact lsd
            generalize WD.setCell ⟨K, 0, none⟩ (.int .i64 vn) = WE at *
            have HBE := Lib.hid bN
            have HFE := Lib.hid fN
            clear bN fN k0d y0d c1d lsd lKd
            have q1 := HBE.out.cell 1
            have q1f := HBE.out.frozen 1
            have lq := HBE.out.lt
            refine wp_region_Y (S := fun W' => G WE W') 9 10 rfl (by kernel_rfl) (G.rf _).d (fun hS => ?_)
            have gf : G WE WE.drew := (G.rf _).d
            generalize WE.drew = WF at *
            refine wpAnyY_take (i := 0) (v := ?_) rfl (by kernel_rfl) (by kernel_rfl) (by kernel_rfl) (by kernel_rfl) (fun _ _ _ h => h) (Or.inl ⟨by kernel_rfl, ?_⟩) hS ?_
            rotate_left
            · intro w' hSw; go_simp; with_reducible rfl
            try simp only [Act.put, List.getElem_toArray, List.getElem_cons_zero, List.getElem_cons_succ, List.setIfInBounds_toArray, List.set_cons_zero, List.set_cons_succ]
            refine wpAnyY_take (i := 1) (v := ?_) rfl (by kernel_rfl) (by kernel_rfl) (by kernel_rfl) (by kernel_rfl) (fun _ _ _ h => h) (Or.inl ⟨by kernel_rfl, ?_⟩) hS ?_
            rotate_left
            · intro w' hSw; have s0 := ((bcellB hSw).1 K _ lq).trans q1; have s1 : K < w'.heap.size := Nat.lt_of_lt_of_le lq hSw.size; go_simp; with_reducible rfl
            try simp only [Act.put, List.getElem_toArray, List.getElem_cons_zero, List.getElem_cons_succ, List.setIfInBounds_toArray, List.set_cons_zero, List.set_cons_succ]
            refine wpAnyY_take (i := 2) (v := ?_) rfl (by kernel_rfl) (by kernel_rfl) (by kernel_rfl) (by kernel_rfl) (fun _ _ _ h => h) (Or.inl ⟨by kernel_rfl, ?_⟩) hS ?_
            rotate_left
            · intro w' hSw; go_simp; with_reducible rfl
            try simp only [Act.put, List.getElem_toArray, List.getElem_cons_zero, List.getElem_cons_succ, List.setIfInBounds_toArray, List.set_cons_zero, List.set_cons_succ]
            refine wpAnyY_take (i := 3) (v := ?_) rfl (by kernel_rfl) (by kernel_rfl) (by kernel_rfl) (by kernel_rfl) (fun _ _ _ h => h) (Or.inl ⟨by kernel_rfl, ?_⟩) hS ?_
            rotate_left
            · intro w' hSw; go_simp; with_reducible rfl
            try simp only [Act.put, List.getElem_toArray, List.getElem_cons_zero, List.getElem_cons_succ, List.setIfInBounds_toArray, List.set_cons_zero, List.set_cons_succ]
            refine wpAnyY_take (i := 4) (v := ?_) rfl (by kernel_rfl) (by kernel_rfl) (by kernel_rfl) (by kernel_rfl) (fun _ _ _ h => h) (Or.inl ⟨by kernel_rfl, ?_⟩) hS ?_
            rotate_left
            · intro w' hSw; go_simp; with_reducible rfl
            try simp only [Act.put, List.getElem_toArray, List.getElem_cons_zero, List.getElem_cons_succ, List.setIfInBounds_toArray, List.set_cons_zero, List.set_cons_succ]
            refine wpAnyY_take (i := 5) (v := ?_) rfl (by kernel_rfl) (by kernel_rfl) (by kernel_rfl) (by kernel_rfl) (fun _ _ _ h => h) (Or.inl ⟨by kernel_rfl, ?_⟩) hS ?_
            rotate_left
            · intro w' hSw; go_simp; with_reducible rfl
            try simp only [Act.put, List.getElem_toArray, List.getElem_cons_zero, List.getElem_cons_succ, List.setIfInBounds_toArray, List.set_cons_zero, List.set_cons_succ]
            refine wpAnyY_take (i := 6) (v := ?_) rfl (by kernel_rfl) (by kernel_rfl) (by kernel_rfl) (by kernel_rfl) (fun _ _ _ h => h) (Or.inl ⟨by kernel_rfl, ?_⟩) hS ?_
            rotate_left
            · intro w' hSw; have s0 := ((bcellB hSw).1 gs _ lse).trans c1e; have s1 : gs < w'.heap.size := Nat.lt_of_lt_of_le lse hSw.size; go_simp; with_reducible rfl
            try simp only [Act.put, List.getElem_toArray, List.getElem_cons_zero, List.getElem_cons_succ, List.setIfInBounds_toArray, List.set_cons_zero, List.set_cons_succ]
            refine wpAnyY_take (i := 7) (v := ?_) rfl (by kernel_rfl) (by kernel_rfl) (by kernel_rfl) (by kernel_rfl) (fun _ _ _ h => h) (Or.inl ⟨by kernel_rfl, ?_⟩) hS ?_
            rotate_left
            · intro w' hSw; have hmx := max2 hi vn; go_simp; with_reducible rfl
            try simp only [Act.put, List.getElem_toArray, List.getElem_cons_zero, List.getElem_cons_succ, List.setIfInBounds_toArray, List.set_cons_zero, List.set_cons_succ]
            refine wpAnyY_take (i := 8) (v := ?_) rfl (by kernel_rfl) (by kernel_rfl) (by kernel_rfl) (by kernel_rfl) (fun _ _ _ h => h) (Or.inl ⟨by kernel_rfl, ?_⟩) hS ?_
            rotate_left
            · intro w' hSw; go_simp; with_reducible rfl
            try simp only [Act.put, List.getElem_toArray, List.getElem_cons_zero, List.getElem_cons_succ, List.setIfInBounds_toArray, List.set_cons_zero, List.set_cons_succ]
            have q1d := ((bcellB gf).1 K _ lq).trans q1
            have q1fd := ((bcellB gf).2 K _ lq).trans q1f
            have lqd : K < WF.heap.size := Nat.lt_of_lt_of_le lq gf.size
            have HBF := Lib.hid (HBE.out.keep gf)
            have HFF := Lib.hid (HFE.out.g gf)
            clear hS
            refine wpAnyY_oneW (i := 9) (by kernel_rfl) rfl (by kernel_rfl) (by kernel_rfl) (fun K9 hK9 => ?_)
            go_simp
            refine hK9.out _ _ ?_
            clear hK9
            try simp only [Act.put, List.getElem_toArray, List.getElem_cons_zero, List.getElem_cons_succ, List.setIfInBounds_toArray, List.set_cons_zero, List.set_cons_succ]
            refine wpAnyY_done (by kernel_rfl) ?_ _
            have bM := HBF.out.set_ 1 (.int .i64 (max hi vn))
            simp only [List.setIfInBounds_toArray, List.set_cons_zero, List.set_cons_succ] at bM
            rw [← HHI'.out] at bM
            have HBM := Lib.hid bM
            have hfm := HFF.out.s (p := ⟨K, 1, none⟩) (.inl rfl) (.int .i64 (max hi vn))
            rw [← HHI'.out] at hfm
            have HFM := Lib.hid hfm
            clear bM hfm q1 q1f lq q1d q1fd lqd HBF HFF gf
            first | rw [← HHI'.out] | skip
            go_wp2_with fail
            go_roundw
            case rel => exact ⟨m + 1, vn, hi', by omega, by go_num, HLN.out, HHN.out, HBM.out, HFM.out⟩
            case measure => simp [intOf] <;> omega
          · have hvb : decide (vn < lo) = false := decide_eq_false hvl
            have hLe : lo' = lo := by rw [HLO'.out, if_neg (by omega)]
            have HLN : Hid (lo = if m < m + 1 then lo' else lo) := by show _ = _; rw [if_pos (by omega)]; exact hLe.symm
            clear hLe
            have lo3 : K < WD.heap.size := lKd
            go_upto_region 17 with fail
            have q1 := HBD.out.cell 1
            have q1f := HBD.out.frozen 1
            have lq := HBD.out.lt
            refine wp_region_Y (S := fun W' => G WD W') 9 10 rfl (by kernel_rfl) (G.rf _).d (fun hS => ?_)
            have gf : G WD WD.drew := (G.rf _).d
            generalize WD.drew = WF at *
            refine wpAnyY_take (i := 0) (v := ?_) rfl (by kernel_rfl) (by kernel_rfl) (by kernel_rfl) (by kernel_rfl) (fun _ _ _ h => h) (Or.inl ⟨by kernel_rfl, ?_⟩) hS ?_
            rotate_left
            · intro w' hSw; go_simp; with_reducible rfl
            try simp only [Act.put, List.getElem_toArray, List.getElem_cons_zero, List.getElem_cons_succ, List.setIfInBounds_toArray, List.set_cons_zero, List.set_cons_succ]
            refine wpAnyY_take (i := 1) (v := ?_) rfl (by kernel_rfl) (by kernel_rfl) (by kernel_rfl) (by kernel_rfl) (fun _ _ _ h => h) (Or.inl ⟨by kernel_rfl, ?_⟩) hS ?_
            rotate_left
            · intro w' hSw; have s0 := ((bcellB hSw).1 K _ lq).trans q1; have s1 : K < w'.heap.size := Nat.lt_of_lt_of_le lq hSw.size; go_simp; with_reducible rfl
            try simp only [Act.put, List.getElem_toArray, List.getElem_cons_zero, List.getElem_cons_succ, List.setIfInBounds_toArray, List.set_cons_zero, List.set_cons_succ]
            refine wpAnyY_take (i := 2) (v := ?_) rfl (by kernel_rfl) (by kernel_rfl) (by kernel_rfl) (by kernel_rfl) (fun _ _ _ h => h) (Or.inl ⟨by kernel_rfl, ?_⟩) hS ?_
            rotate_left
            · intro w' hSw; go_simp; with_reducible rfl
            try simp only [Act.put, List.getElem_toArray, List.getElem_cons_zero, List.getElem_cons_succ, List.setIfInBounds_toArray, List.set_cons_zero, List.set_cons_succ]
            refine wpAnyY_take (i := 3) (v := ?_) rfl (by kernel_rfl) (by kernel_rfl) (by kernel_rfl) (by kernel_rfl) (fun _ _ _ h => h) (Or.inl ⟨by kernel_rfl, ?_⟩) hS ?_
            rotate_left
            · intro w' hSw; go_simp; with_reducible rfl
            try simp only [Act.put, List.getElem_toArray, List.getElem_cons_zero, List.getElem_cons_succ, List.setIfInBounds_toArray, List.set_cons_zero, List.set_cons_succ]
            refine wpAnyY_take (i := 4) (v := ?_) rfl (by kernel_rfl) (by kernel_rfl) (by kernel_rfl) (by kernel_rfl) (fun _ _ _ h => h) (Or.inl ⟨by kernel_rfl, ?_⟩) hS ?_
            rotate_left
            · intro w' hSw; go_simp; with_reducible rfl
            try simp only [Act.put, List.getElem_toArray, List.getElem_cons_zero, List.getElem_cons_succ, List.setIfInBounds_toArray, List.set_cons_zero, List.set_cons_succ]
            refine wpAnyY_take (i := 5) (v := ?_) rfl (by kernel_rfl) (by kernel_rfl) (by kernel_rfl) (by kernel_rfl) (fun _ _ _ h => h) (Or.inl ⟨by kernel_rfl, ?_⟩) hS ?_
            rotate_left
            · intro w' hSw; go_simp; with_reducible rfl
            try simp only [Act.put, List.getElem_toArray, List.getElem_cons_zero, List.getElem_cons_succ, List.setIfInBounds_toArray, List.set_cons_zero, List.set_cons_succ]
            refine wpAnyY_take (i := 6) (v := ?_) rfl (by kernel_rfl) (by kernel_rfl) (by kernel_rfl) (by kernel_rfl) (fun _ _ _ h => h) (Or.inl ⟨by kernel_rfl, ?_⟩) hS ?_
            rotate_left
            · intro w' hSw; have s0 := ((bcellB hSw).1 gs _ lsd).trans c1d; have s1 : gs < w'.heap.size := Nat.lt_of_lt_of_le lsd hSw.size; go_simp; with_reducible rfl
            try simp only [Act.put, List.getElem_toArray, List.getElem_cons_zero, List.getElem_cons_succ, List.setIfInBounds_toArray, List.set_cons_zero, List.set_cons_succ]
            refine wpAnyY_take (i := 7) (v := ?_) rfl (by kernel_rfl) (by kernel_rfl) (by kernel_rfl) (by kernel_rfl) (fun _ _ _ h => h) (Or.inl ⟨by kernel_rfl, ?_⟩) hS ?_
            rotate_left
            · intro w' hSw; have hmx := max2 hi vn; go_simp; with_reducible rfl
            try simp only [Act.put, List.getElem_toArray, List.getElem_cons_zero, List.getElem_cons_succ, List.setIfInBounds_toArray, List.set_cons_zero, List.set_cons_succ]
            refine wpAnyY_take (i := 8) (v := ?_) rfl (by kernel_rfl) (by kernel_rfl) (by kernel_rfl) (by kernel_rfl) (fun _ _ _ h => h) (Or.inl ⟨by kernel_rfl, ?_⟩) hS ?_
            rotate_left
            · intro w' hSw; go_simp; with_reducible rfl
            try simp only [Act.put, List.getElem_toArray, List.getElem_cons_zero, List.getElem_cons_succ, List.setIfInBounds_toArray, List.set_cons_zero, List.set_cons_succ]
            have q1d := ((bcellB gf).1 K _ lq).trans q1
            have q1fd := ((bcellB gf).2 K _ lq).trans q1f
            have lqd : K < WF.heap.size := Nat.lt_of_lt_of_le lq gf.size
            have HBF := Lib.hid (HBD.out.keep gf)
            have HFF := Lib.hid (HFD.out.g gf)
            clear hS
            refine wpAnyY_oneW (i := 9) (by kernel_rfl) rfl (by kernel_rfl) (by kernel_rfl) (fun K9 hK9 => ?_)
            go_simp
            refine hK9.out _ _ ?_
            clear hK9
            try simp only [Act.put, List.getElem_toArray, List.getElem_cons_zero, List.getElem_cons_succ, List.setIfInBounds_toArray, List.set_cons_zero, List.set_cons_succ]
            refine wpAnyY_done (by kernel_rfl) ?_ _
            have bM := HBF.out.set_ 1 (.int .i64 (max hi vn))
            simp only [List.setIfInBounds_toArray, List.set_cons_zero, List.set_cons_succ] at bM
            rw [← HHI'.out] at bM
            have HBM := Lib.hid bM
            have hfm := HFF.out.s (p := ⟨K, 1, none⟩) (.inl rfl) (.int .i64 (max hi vn))
            rw [← HHI'.out] at hfm
            have HFM := Lib.hid hfm
            clear bM hfm q1 q1f lq q1d q1fd lqd HBF HFF gf
            first | rw [← HHI'.out] | skip
            go_wp2_with fail
            go_roundw
            case rel => exact ⟨m + 1, lo, hi', by omega, by go_num, HLN.out, HHN.out, HBM.out, HFM.out⟩
            case measure => simp [intOf] <;> omega

end Go.Proofs.YtnkmcoljijmgpaaGreat

set_option linter.unusedSimpArgs false
set_option linter.unusedVariables false
namespace Go.Proofs.YtnkmcoljijmgpaaGreat
open Go.RowKit Go.Shelf Go.Sort Go.Maps
attribute [local go_sem] Oper.semAt_some
/-- how many of the first n cases hold -/
def cntT (F : Nat → Bool) : Nat → Nat
  | 0 => 0
  | n + 1 => cntT F n + if F n = true then 1 else 0
theorem cntT_succ (F : Nat → Bool) (n : Nat) : cntT F (n + 1) = cntT F n + if F n = true then 1 else 0 := rfl
theorem cntT_le (F : Nat → Bool) : ∀ n, cntT F n ≤ n
  | 0 => Nat.le_refl _
  | n + 1 => by
    have := cntT_le F n
    unfold cntT
    split <;> omega
theorem cntT_all (F : Nat → Bool) : ∀ n, cntT F n = n ↔ allU F n = true
  | 0 => by simp [cntT, allU, anyU]
  | n + 1 => by
    have ih := cntT_all F n
    have hl := cntT_le F n
    rw [allU_succ, Bool.and_eq_true, ← ih, cntT_succ]
    by_cases h : F n = true
    · rw [if_pos h]
      simp [h]
    · rw [if_neg h]
      constructor
      · intro e; omega
      · rintro ⟨_, e⟩; exact absurd e h
theorem cntT_any (F : Nat → Bool) : ∀ n, 0 < cntT F n ↔ anyU F n = true
  | 0 => by simp [cntT, anyU]
  | n + 1 => by
    have ih := cntT_any F n
    rw [anyU_succ, Bool.or_eq_true, ← ih, cntT_succ]
    by_cases h : F n = true
    · rw [if_pos h]
      simp [h]
    · rw [if_neg h]
      simp [h]
/-- whether a bird is among the first ones of a case -/
def firB (f : Fu) (ps : List Int) (b : Int) (n : Nat) : Bool := inL (firstL f (stOf ps n)) b
def sureB (f : Fu) (ps : List Int) (b : Int) : Bool := decide (cntT (firB f ps b) (2 ^ ps.length) = 2 ^ ps.length)
def maybB (f : Fu) (ps : List Int) (b : Int) : Bool := decide (0 < cntT (firB f ps b) (2 ^ ps.length)) && !sureB f ps b
theorem asc_eq {l l' : List Int} (h1 : l.Pairwise (· < ·)) (h2 : l'.Pairwise (· < ·)) (h : ∀ b, b ∈ l ↔ b ∈ l') : l = l' := by
  have nd : ∀ {l : List Int}, l.Pairwise (· < ·) → l.Nodup := fun {l} hl => hl.imp (fun {a b} hab e => by omega)
  have hp : l.Perm l' := (List.perm_ext_iff_of_nodup (nd h1) (nd h2)).2 h
  exact List.Perm.eq_of_pairwise (le := fun a b : Int => a < b) (fun a b _ _ h3 h4 => by omega) h1 h2 hp
theorem named_asc {r : Ra} (hr : raceB r = true) (p : Int) : (namedL r p).Pairwise (· < ·) := by
  have h1 := runners_sorted r p
  have h2 := runners_uniq hr p
  unfold namedL
  rw [List.pairwise_map]
  exact List.Pairwise.imp₂ (fun a b h k => by omega) h1 h2
theorem first_sub {f : Fu} {st : List Int} {b : Int} (h : inL (firstL f st) b = true) : ∃ x ∈ f.rs, x.bird = b := by
  have h1 := inL_iff.1 h
  unfold firstL at h1
  have h2 : b ∈ (orderL f st).flatten := by
    cases hh : orderL f st with
    | nil => rw [hh] at h1; simp at h1
    | cons a l =>
      rw [hh] at h1
      exact List.mem_flatten.2 ⟨a, List.mem_cons_self .., h1⟩
  rw [orderL_flat] at h2
  obtain ⟨x, hx, e⟩ := List.mem_map.1 h2
  exact ⟨x, (takers_mem.1 hx).1, e⟩
theorem first_eq {r : Ra} {p : Int} {S M : List Int} (hr : raceB r = true) (h : FiOk (fuOf r p none 0) (caseL r.protests) S M) :
    S = (namedL r p).filter (sureB (fuOf r p none 0) r.protests) ∧ M = (namedL r p).filter (maybB (fuOf r p none 0) r.protests) := by
  have hc : ∀ b, CasF (2 ^ r.protests.length) (fun j => wonAt (wonL (fuOf r p none 0) (stOf r.protests j)) b) (firB (fuOf r p none 0) r.protests b) _ _ S M b := fun b => cas_of h
  have hpos : 0 < 2 ^ r.protests.length := Nat.pow_pos (by decide)
  have hn : ∀ b, anyU (firB (fuOf r p none 0) r.protests b) (2 ^ r.protests.length) = true → b ∈ namedL r p := fun b hb => by
    obtain ⟨j, _, hj⟩ := anyU_iff.1 hb
    obtain ⟨x, hx, e⟩ := first_sub hj
    exact List.mem_map.2 ⟨x, hx, e⟩
  have hall : ∀ b, allU (firB (fuOf r p none 0) r.protests b) (2 ^ r.protests.length) = true → anyU (firB (fuOf r p none 0) r.protests b) (2 ^ r.protests.length) = true := fun b hb => anyU_iff.2 ⟨0, hpos, allU_iff.1 hb 0 hpos⟩
  refine ⟨asc_eq h.asS ((named_asc hr p).filter _) fun b => ?_, asc_eq h.asM ((named_asc hr p).filter _) fun b => ?_⟩
  · rw [List.mem_filter, ← inL_iff, ← (hc b).all]
    unfold sureB
    rw [decide_eq_true_iff, cntT_all]
    exact ⟨fun a => ⟨hn b (hall b a), a⟩, fun a => a.2⟩
  · rw [List.mem_filter, ← inL_iff, ← (hc b).some]
    unfold maybB sureB
    rw [Bool.and_eq_true, Bool.and_eq_true, decide_eq_true_iff, cntT_any, Bool.not_eq_true', Bool.not_eq_true', decide_eq_false_iff_not, cntT_all]
    constructor
    · rintro ⟨a, c⟩
      exact ⟨hn b a, a, by rw [c]; decide⟩
    · rintro ⟨_, a, c⟩
      exact ⟨a, by simpa using c⟩
def FiR (r : Ra) (p : Int) (w : World) (e : Ending) (w' : World) : Prop := G w w' ∧ ((qE r p [] ≠ 0 ∧ e = .returned (.tuple #[.slice none 0 0, .slice none 0 0, .int .i64 (qE r p [])])) ∨ (qE r p [] = 0 ∧ ∃ (v1 v2 : Value), e = .returned (.tuple #[v1, v2, .int .i64 0]) ∧ w'.ownsRow w.heap.size 3 1 v1 ((namedL r p).filter (sureB (fuOf r p none 0) r.protests)).length (iv ((namedL r p).filter (sureB (fuOf r p none 0) r.protests))) ∧ w'.ownsRow w.heap.size 3 1 v2 ((namedL r p).filter (maybB (fuOf r p none 0) r.protests)).length (iv ((namedL r p).filter (maybB (fuOf r p none 0) r.protests)))))
theorem ret41 (tmps : Array Value) (w : World) (a b c : Value) (h4 : tmps.getD 4 undef = a) (h5 : tmps.getD 5 undef = b) (h6 : tmps.getD 6 undef = c) : (results Tryz.f41 tmps).run Tryz.prog w = .ok (.tuple #[a, b, c]) w := by
  have hr : Tryz.f41.results = #[.tmp 4, .tmp 5, .tmp 6] := rfl
  have h4' : tmps[4]?.getD undef = a := by simpa using h4
  have h5' : tmps[5]?.getD undef = b := by simpa using h5
  have h6' : tmps[6]?.getD undef = c := by simpa using h6
  simp only [results, hr]
  go_simp
theorem ordC (r : Ra) (p : Nat) (w : World) (h : r.At w) (hr : raceB r = true) (hq : qE r (p : Int) [] = 0) : Calls Tryz.prog 67 #[.agg r.v, .int .i64 (p : Nat)] w fun e w' => ∃ a c, e = .returned (.slice a (orderL (fuOf r p none 0) []).length c) ∧ GrpAt w' a (orderL (fuOf r p none 0) []) ∧ G w w' := by
  obtain ⟨_, n, e, hn⟩ := q_in hq
  have hp : p < r.pools.length := by omega
  refine (order67_any r p w h hr hp).mono ?_
  rintro e w' ⟨v, cs, rfl, ho, hG⟩
  obtain ⟨a, c, rfl, hI⟩ := rows_read ho
  exact ⟨a, c, rfl, hI, hG⟩
theorem pow64b {ps : List Int} (h : ps.length ≤ 4) : IntKind.i64.wrap ((2 : Int) ^ min (IntKind.u64.wrap (ps.length : Int)).toNat 64) = ((2 ^ ps.length : Nat) : Int) := by
  generalize ps.length = n at *
  have h5 : n = 0 ∨ n = 1 ∨ n = 2 ∨ n = 3 ∨ n = 4 := by omega
  rcases h5 with rfl | rfl | rfl | rfl | rfl <;> decide
set_option maxRecDepth 100000 in
set_option maxHeartbeats 16000000 in
theorem rFirst_any (r : Ra) (p : Int) (w : World) (h : r.At w) (hn : r.Nil) : Calls Tryz.prog 41 #[.agg r.v, .int .i64 p] w (FiR r p w) := by
  have hrv : r.v = #[.slice r.ra r.racers.length r.rc, .slice r.pa r.pools.length r.pc, .slice r.ta r.protests.length r.tc] := rfl
  have HCK := Lib.hid (fun (W : World) (hW : G w W) => refc_any r p W (h.keep hW))
  have HE : Hid (qE r p [] ≠ 0 → ∀ W', G w W' → FiR r p w (.returned (.tuple #[.slice none 0 0, .slice none 0 0, .int .i64 (qE r p [])])) W') := fun a W' hG => ⟨hG, .inl ⟨a, rfl⟩⟩
  have HS : Hid (qE r p [] = 0 → ∀ W' v1 v2, G w W' → W'.ownsRow w.heap.size 3 1 v1 ((namedL r p).filter (sureB (fuOf r p none 0) r.protests)).length (iv ((namedL r p).filter (sureB (fuOf r p none 0) r.protests))) → W'.ownsRow w.heap.size 3 1 v2 ((namedL r p).filter (maybB (fuOf r p none 0) r.protests)).length (iv ((namedL r p).filter (maybB (fuOf r p none 0) r.protests))) → FiR r p w (.returned (.tuple #[v1, v2, .int .i64 0])) W') := fun a W' v1 v2 hG h1 h2 => ⟨hG, .inr ⟨a, v1, v2, rfl, h1, h2⟩⟩
  generalize FiR r p w = PP at *
  have HNA := Lib.hid (fun (W : World) (hW : G w W) => naQ0 r p (namedL r p).length W (h.keep hW) rfl)
  have HC3 : Hid (raceB r = true → ∀ (n : Nat) (W : World), G w W → Calls Tryz.prog 30 #[.agg #[.slice r.ra r.racers.length r.rc, .slice r.pa r.pools.length r.pc, .slice r.ta r.protests.length r.tc], .int .i64 (n : Nat)] W fun e w' => G W w' ∧ ∃ o : Ra, e = .returned (.agg #[.slice o.ra o.racers.length o.rc, .slice o.pa o.pools.length o.pc, .slice none 0 0]) ∧ o.racers.map rcP = r.racers.map rcP ∧ o.pools.map poP = r.pools.map poP ∧ o.protests = r.protests ∧ (caseR o (stOf r.protests n)).At w') := fun hr n W hW => Case_any r n W (h.keep hW) hn hr
  rw [hrv] at HCK HNA ⊢
  clear h hn hrv
  obtain ⟨W1, hW1⟩ : ∃ W1, W1 = w.alloc (.cells #[.slice r.ra r.racers.length r.rc, .slice r.pa r.pools.length r.pc, .slice r.ta r.protests.length r.tc] 26) := ⟨_, rfl⟩
  have g1 : G w W1 := by rw [hW1]; exact (G.rf _).a _
  have b0 : Blk W1 w.heap.size 26 #[.slice r.ra r.racers.length r.rc, .slice r.pa r.pools.length r.pc, .slice r.ta r.protests.length r.tc] := by rw [hW1]; exact Blk.new _ _ _
  have m0 := b0.cell 0
  have m1 := b0.cell 1
  have m2 := b0.cell 2
  have l0 := b0.lt
  go_enter Tryz.func41, Tryz.ntmps41
  go_upto_region 1 with fail
  change Code.wp _ _ _ _ (w.alloc (.cells #[.slice r.ra r.racers.length r.rc, .slice r.pa r.pools.length r.pc, .slice r.ta r.protests.length r.tc] 26))
  rw [← hW1]
  clear hW1
  by_cases hq : qE r p [] = 0
  rotate_left
  · have HE2 := Lib.hid (HE.out hq)
    generalize qE r p [] = QE at *
    have e0 : (QE == 0) = false := by simpa using hq
    have e1 : (QE != 0) = true := by simpa using hq
    clear HE HS HNA HC3
    go_wp2_with (go_at_call 63; refine (HCK.out _ g1).mono ?_; rintro e w2 ⟨rfl, hG2⟩)
    have HF := HE2.out _ (g1.t hG2)
    first | exact HF | (refine bodyPost_ret (ret41 _ _ _ _ _ rfl rfl rfl) rfl ?_; exact HF)
  obtain ⟨hrb, pn, hpn, hpl⟩ := q_in hq
  subst hpn
  have hqE : qE r (pn : Int) [] = 0 := hq
  rw [hqE] at HCK
  have hnp := race_np hrb
  obtain ⟨_, h16⟩ := pow64 hnp
  have hw64 := pow64b hnp
  have HCM := Lib.hid (HC3.out hrb)
  have HSS := Lib.hid (HS.out hq)
  have HQ0 := Lib.hid hq
  have HRB := Lib.hid hrb
  have hnl12 : (namedL r pn).length ≤ 12 := by
    unfold namedL
    rw [List.length_map]
    exact runners_le hrb pn
  have HFL : Hid (∀ st : List Int, (firstL (fuOf r pn none 0) st).length ≤ 1000) := fun st => by
    have ok := (fu_facts hrb hpl none 0 st).ok
    unfold firstL
    by_cases hj : 0 < (orderL (fuOf r pn none 0) st).length
    · have := (grp_bd ok hj).2; omega
    · rw [List.getD_eq_getElem?_getD, List.getElem?_eq_none (by omega)]
      simp
  obtain ⟨NN, hNN⟩ : ∃ NN, NN = 2 ^ r.protests.length := ⟨_, rfl⟩
  obtain ⟨NL, hNL⟩ : ∃ NL, NL = namedL r pn := ⟨_, rfl⟩
  have HSB : Hid (∀ b, sureB (fuOf r pn none 0) r.protests b = decide (cntT (firB (fuOf r pn none 0) r.protests b) NN = NN)) := fun b => by rw [hNN]; rfl
  have HMB : Hid (∀ b, maybB (fuOf r pn none 0) r.protests b = (decide (0 < cntT (firB (fuOf r pn none 0) r.protests b) NN) && !sureB (fuOf r pn none 0) r.protests b)) := fun b => by rw [hNN]; rfl
  have HFB : Hid (∀ b n, firB (fuOf r pn none 0) r.protests b n = inL (firstL (fuOf r pn none 0) (stOf r.protests n)) b) := fun b n => rfl
  rw [← hNN] at hw64 h16
  rw [← hNL] at HNA HSS hnl12
  obtain ⟨SB, hSB⟩ : ∃ SB, SB = sureB (fuOf r pn none 0) r.protests := ⟨_, rfl⟩
  obtain ⟨MB, hMB⟩ : ∃ MB, MB = maybB (fuOf r pn none 0) r.protests := ⟨_, rfl⟩
  rw [← hSB] at HSS HSB HMB
  rw [← hMB] at HSS HMB
  have HW64 := Lib.hid hw64
  clear HE HS HC3 hq hqE hrb hNN hNL hSB hMB hw64
  go_upto_region 4 with (go_at_call 63; refine (HCK.out _ g1).mono ?_; rintro e w2 ⟨rfl, hG2⟩)
  have g2 := g1.t hG2
  have B0 := b0.keep hG2
  clear m0 m1 m2 l0 b0 hG2 g1 HCK
  refine wp_region_Y (S := fun W' => G w2 W') 9 10 rfl (by kernel_rfl) (G.rf _).d (fun hS => ?_)
  have gd : G w2 w2.drew := (G.rf _).d
  generalize w2.drew = WD at *
  refine wpAnyY_take (i := 0) (v := ?_) rfl (by kernel_rfl) (by kernel_rfl) (by kernel_rfl) (by kernel_rfl) (fun _ _ _ h => h) (Or.inl ⟨by kernel_rfl, ?_⟩) hS ?_
  rotate_left
  · intro w' hSw; have s0 := (B0.keep hSw).cell 0; have s1 := (B0.keep hSw).cell 1; have s2 := (B0.keep hSw).cell 2; have s3 := (B0.keep hSw).lt; go_simp; with_reducible rfl
  try simp only [Act.put, List.getElem_toArray, List.getElem_cons_zero, List.getElem_cons_succ, List.setIfInBounds_toArray, List.set_cons_zero, List.set_cons_succ]
  refine wpAnyY_take (i := 1) (v := ?_) rfl (by kernel_rfl) (by kernel_rfl) (by kernel_rfl) (by kernel_rfl) (fun _ _ _ h => h) (Or.inl ⟨by kernel_rfl, ?_⟩) hS ?_
  rotate_left
  · intro w' hSw; go_simp; with_reducible rfl
  try simp only [Act.put, List.getElem_toArray, List.getElem_cons_zero, List.getElem_cons_succ, List.setIfInBounds_toArray, List.set_cons_zero, List.set_cons_succ]
  refine wpAnyY_take (i := 3) (v := ?_) rfl (by kernel_rfl) (by kernel_rfl) (by kernel_rfl) (by kernel_rfl) (fun _ _ _ h => h) (Or.inl ⟨by kernel_rfl, ?_⟩) hS ?_
  rotate_left
  · intro w' hSw; go_simp; with_reducible rfl
  try simp only [Act.put, List.getElem_toArray, List.getElem_cons_zero, List.getElem_cons_succ, List.setIfInBounds_toArray, List.set_cons_zero, List.set_cons_succ]
  refine wpAnyY_take (i := 4) (v := ?_) rfl (by kernel_rfl) (by kernel_rfl) (by kernel_rfl) (by kernel_rfl) (fun _ _ _ h => h) (Or.inl ⟨by kernel_rfl, ?_⟩) hS ?_
  rotate_left
  · intro w' hSw; have s2 := (B0.keep hSw).cell 2; have s3 := (B0.keep hSw).lt; go_simp; with_reducible rfl
  try simp only [Act.put, List.getElem_toArray, List.getElem_cons_zero, List.getElem_cons_succ, List.setIfInBounds_toArray, List.set_cons_zero, List.set_cons_succ]
  refine wpAnyY_take (i := 5) (v := ?_) rfl (by kernel_rfl) (by kernel_rfl) (by kernel_rfl) (by kernel_rfl) (fun _ _ _ h => h) (Or.inl ⟨by kernel_rfl, ?_⟩) hS ?_
  rotate_left
  · intro w' hSw; go_simp; with_reducible rfl
  try simp only [Act.put, List.getElem_toArray, List.getElem_cons_zero, List.getElem_cons_succ, List.setIfInBounds_toArray, List.set_cons_zero, List.set_cons_succ]
  refine wpAnyY_take (i := 6) (v := ?_) rfl (by kernel_rfl) (by kernel_rfl) (by kernel_rfl) (by kernel_rfl) (fun _ _ _ h => h) (Or.inl ⟨by kernel_rfl, ?_⟩) hS ?_
  rotate_left
  · intro w' hSw; go_simp; with_reducible rfl
  try simp only [Act.put, List.getElem_toArray, List.getElem_cons_zero, List.getElem_cons_succ, List.setIfInBounds_toArray, List.set_cons_zero, List.set_cons_succ]
  refine wpAnyY_take (i := 7) (v := ?_) rfl (by kernel_rfl) (by kernel_rfl) (by kernel_rfl) (by kernel_rfl) (fun _ _ _ h => h) (Or.inl ⟨by kernel_rfl, ?_⟩) hS ?_
  rotate_left
  · intro w' hSw; have hw := HW64.out; go_simp; with_reducible rfl
  try simp only [Act.put, List.getElem_toArray, List.getElem_cons_zero, List.getElem_cons_succ, List.setIfInBounds_toArray, List.set_cons_zero, List.set_cons_succ]
  refine wpAnyY_oneSW (i := 2) (by kernel_rfl) rfl (by kernel_rfl) (fun K2 hK2 => ?_)
  go_simp
  refine (HNA.out _ (g2.t gd)).mono ?_
  rintro e w3 ⟨hG3, na, nc, rfl, hni⟩
  replace gd := gd.t hG3
  refine hK2.out _ _ gd (fun hS => ?_)
  clear hK2
  try simp only [Act.put, List.getElem_toArray, List.getElem_cons_zero, List.getElem_cons_succ, List.setIfInBounds_toArray, List.set_cons_zero, List.set_cons_succ]
  refine wpAnyY_take (i := 8) (v := ?_) rfl (by kernel_rfl) (by kernel_rfl) (by kernel_rfl) (by kernel_rfl) (fun _ _ _ h => h) (Or.inl ⟨by kernel_rfl, ?_⟩) hS ?_
  rotate_left
  · intro w' hSw; go_simp; with_reducible rfl
  try simp only [Act.put, List.getElem_toArray, List.getElem_cons_zero, List.getElem_cons_succ, List.setIfInBounds_toArray, List.set_cons_zero, List.set_cons_succ]
  refine wpAnyY_oneW (i := 9) (by kernel_rfl) rfl (by kernel_rfl) (by kernel_rfl) (fun K9 hK9 => ?_)
  go_simp
  refine hK9.out _ _ ?_
  clear hK9
  try simp only [Act.put, List.getElem_toArray, List.getElem_cons_zero, List.getElem_cons_succ, List.setIfInBounds_toArray, List.set_cons_zero, List.set_cons_succ]
  refine wpAnyY_done (by kernel_rfl) ?_ _
  have g3 := g2.t gd
  have HB3 := Lib.hid (B0.keep gd)
  generalize IntKind.u64.wrap (r.protests.length : Int) = uw
  have HNI := Lib.hid hni
  clear hS gd hG3 hni B0 HNA g2
  go_wp2_with fail
  go_loopw [4, 5, 10] (fun v1 v2 i wr => ∃ (k : Nat) (S M : List Int), k ≤ NL.length ∧ i = .int .i64 k ∧ S.length ≤ k ∧ M.length ≤ k ∧ Hid (S = (NL.take k).filter SB) ∧ Hid (M = (NL.take k).filter MB) ∧ Hid (wr.ownsRow w3.heap.size 3 1 v1 S.length (iv S)) ∧ Hid (wr.ownsRow w3.heap.size 3 1 v2 M.length (iv M)) ∧ Hid (apart v1 v2) ∧ Hid (G w3 wr)) (fun _ _ i _ => NL.length - (intOf i).toNat)
  case atStart => exact ⟨0, [], [], Nat.zero_le _, rfl, Nat.zero_le _, Nat.zero_le _, rfl, rfl, World.ownsRow_nil _ _ _ _, World.ownsRow_nil _ _ _ _, (fun g h _ => by cases h), G.rf _⟩
  case round =>
    obtain ⟨k, S, M, hk, rfl, hSl, hMl, HSE, HME, HO1, HO2, HAP, HG⟩ := hrel
    obtain ⟨wk, rfl⟩ : ∃ wk, wk = wr := ⟨_, rfl⟩
    obtain ⟨s1a, s1c, rfl⟩ := own_slice HO1.out
    obtain ⟨s2a, s2c, rfl⟩ := own_slice HO2.out
    by_cases hkl : k < NL.length
    rotate_left
    · obtain rfl : k = NL.length := by omega
      have hki : ¬ ((NL.length : Nat) : Int) < NL.length := by omega
      rw [List.take_length] at HSE HME
      have HF := Lib.hid (HSS.out wk (.slice s1a S.length s1c) (.slice s2a M.length s2c) (g3.t HG.out) (by rw [← HSE.out]; exact own_weaken HO1.out g3.size) (by rw [← HME.out]; exact own_weaken HO2.out g3.size))
      clear HSE HME HO1 HO2 HAP HSS
      go_wp2_with fail
      first | exact HF.out | (refine bodyPost_ret (ret41 _ _ _ _ _ rfl rfl rfl) rfl ?_; exact HF.out)
    have hki : (k : Int) < NL.length := by omega
    rcases HNI.out with hx | ⟨gn, ofn, rfl, hgn, hnc⟩
    · rw [hx] at hkl; simp at hkl
    have HN0 := Lib.hid (hnc k hkl)
    have hf1 := filt_take SB hkl
    have hf2 := filt_take MB hkl
    rw [← HSE.out] at hf1
    rw [← HME.out] at hf2
    obtain ⟨b, hb⟩ : ∃ b, b = NL.getD k 0 := ⟨_, rfl⟩
    rw [← hb] at HN0 hf1 hf2
    have HF1 := Lib.hid hf1
    have HF2 := Lib.hid hf2
    have hsb := HSB.out b
    have hmb := HMB.out b
    rw [hsb] at hmb
    have HSBb := Lib.hid hsb
    have HMBb := Lib.hid hmb
    clear hb hnc hf1 hf2 hsb hmb
    obtain ⟨FB, hFB⟩ : ∃ FB, FB = firB (fuOf r pn none 0) r.protests b := ⟨_, rfl⟩
    have HFBb : Hid (∀ n, FB n = inL (firstL (fuOf r pn none 0) (stOf r.protests n)) b) := fun n => by rw [hFB]; rfl
    rw [← hFB] at HSBb HMBb
    clear hFB
    go_wp2_with fail
    go_loopw [11, 12] (fun c i wr => ∃ (n ct : Nat), n ≤ NN ∧ c = .int .i64 ct ∧ i = .int .i64 n ∧ ct ≤ n ∧ Hid (ct = cntT FB n) ∧ Hid (G wk wr)) (fun _ i _ => NN - (intOf i).toNat)
    case atStart => exact ⟨0, 0, Nat.zero_le _, rfl, rfl, Nat.le_refl _, rfl, G.rf _⟩
    case round =>
      obtain ⟨n, ct, hnn, rfl, rfl, hcn, HCT, HGN⟩ := hrel
      obtain ⟨wn, rfl⟩ : ∃ wn, wn = wr := ⟨_, rfl⟩
      have g3n := HG.out.t HGN.out
      by_cases hlt : n < NN
      rotate_left
      · obtain rfl : n = NN := by omega
        have hni : ¬ ((n : Nat) : Int) < n := by omega
        have hct := HCT.out
        rw [← hct] at HSBb HMBb
        clear hct HCT
        have hO1 := own_G HO1.out HGN.out
        have hO2 := own_G HO2.out HGN.out
        have HO1n := Lib.hid hO1
        have HO2n := Lib.hid hO2
        have n0 := ((bcellB g3n).1 gn _ hgn).trans HN0.out
        have ln : gn < wn.heap.size := Nat.lt_of_lt_of_le hgn g3n.size
        have HG3N := Lib.hid g3n
        obtain ⟨i0, hi0, hz0, hz1, hz2⟩ := info_parts info3
        clear hO1 hO2 HO1 HO2 HGN g3n HG
        by_cases hs : ct = n
        · have hb1 : ((ct : Int) == (n : Int)) = true := by simp [hs]
          have hb2 : (ct == n) = true := by simp [hs]
          have HS1 : Hid (S ++ [b] = (NL.take (k + 1)).filter SB) := by show _ = _; rw [HF1.out, if_pos (by rw [HSBb.out]; simpa using hs)]
          have HM1 : Hid (M = (NL.take (k + 1)).filter MB) := by show _ = _; rw [HF2.out, if_neg (by rw [HMBb.out]; simp [hs])]
          have HOA := Lib.hid (own_G HO1n.out ((G.rf wn).a (.cells #[.int .i64 b] 3)))
          have HOB := Lib.hid (own_G HO2n.out ((G.rf wn).a (.cells #[.int .i64 b] 3)))
          clear HSBb HMBb HF1 HF2
          obtain ⟨cu, hcu⟩ : ∃ cu, cu = ct := ⟨_, rfl⟩
          clear hs hcu cu
          go_wp2_with (at_builtin; refine wpList_append_own_at _ rfl _ _ 24 rfl w3.heap.size 3 i0 (.int .i64 0) 1 8 Tryz.underlying24 hi0 hz0 hz1 hz2 rfl (by decide) _ S.length (iv S) rfl HOA.out ⟨wn.heap.size, 0, none⟩ 1 1 [.int .i64 b] rfl rfl (cell_one_new _ _ _) (by simp [Value.oneCell']) (by unfold maxLen; omega) (by omega) (by have h1 := HG3N.out.size; simp only [World.alloc, Array.size_push]; omega) ?_; intro v9 w9 hown9 hg9 hnil9 hat9)
          have hWG := within_grow (HG3N.out.a _) HOA.out HOB.out HAP.out hg9 rfl hat9
          have HN9 := Lib.hid hown9
          have HWG := Lib.hid hWG
          clear hown9 hg9 hnil9 hat9 hWG HOA HOB n0 ln
          go_wp2_with fail
          go_roundw
          case rel => exact ⟨k + 1, S ++ [b], M, by omega, by go_num, by rw [List.length_append]; exact Nat.add_le_add hSl (Nat.le_refl 1), by omega, HS1.out, HM1.out, by rw [List.length_append, iv_snoc]; exact HN9.out, HWG.out.1, HWG.out.2.1, HWG.out.2.2⟩
          case measure => simp [intOf] <;> omega
        · have hb1 : ((ct : Int) == (n : Int)) = false := by simp; omega
          have hb2 : (ct == n) = false := by simp [hs]
          have HS1 : Hid (S = (NL.take (k + 1)).filter SB) := by show _ = _; rw [HF1.out, if_neg (by rw [HSBb.out]; simpa using hs)]
          by_cases h0 : 0 < ct
          · have hd0 : decide ((0 : Int) < (ct : Int)) = true := decide_eq_true (by omega)
            have HM1 : Hid (M ++ [b] = (NL.take (k + 1)).filter MB) := by show _ = _; rw [HF2.out, if_pos (by rw [HMBb.out]; simp [hs, h0])]
            have HOA := Lib.hid (own_G HO1n.out ((G.rf wn).a (.cells #[.int .i64 b] 3)))
            have HOB := Lib.hid (own_G HO2n.out ((G.rf wn).a (.cells #[.int .i64 b] 3)))
            clear HSBb HMBb HF1 HF2 hs
            go_wp2_with (at_builtin; refine wpList_append_own_at _ rfl _ _ 24 rfl w3.heap.size 3 i0 (.int .i64 0) 1 8 Tryz.underlying24 hi0 hz0 hz1 hz2 rfl (by decide) _ M.length (iv M) rfl HOB.out ⟨wn.heap.size, 0, none⟩ 1 1 [.int .i64 b] rfl rfl (cell_one_new _ _ _) (by simp [Value.oneCell']) (by unfold maxLen; omega) (by omega) (by have h1 := HG3N.out.size; simp only [World.alloc, Array.size_push]; omega) ?_; intro v9 w9 hown9 hg9 hnil9 hat9)
            have hWG := within_grow (HG3N.out.a _) HOB.out HOA.out (fun g a c => HAP.out g c a) hg9 rfl hat9
            have HN9 := Lib.hid hown9
            have HWG := Lib.hid hWG
            clear hown9 hg9 hnil9 hat9 hWG HOA HOB n0 ln
            go_wp2_with fail
            go_roundw
            case rel => exact ⟨k + 1, S, M ++ [b], by omega, by go_num, by omega, by rw [List.length_append]; exact Nat.add_le_add hMl (Nat.le_refl 1), HS1.out, HM1.out, HWG.out.1, by rw [List.length_append, iv_snoc]; exact HN9.out, (fun g a c => HWG.out.2.1 g c a), HWG.out.2.2⟩
            case measure => simp [intOf] <;> omega
          · have hd0 : decide ((0 : Int) < (ct : Int)) = false := decide_eq_false (by omega)
            have HM1 : Hid (M = (NL.take (k + 1)).filter MB) := by show _ = _; rw [HF2.out, if_neg (by rw [HMBb.out]; simp [h0])]
            clear HSBb HMBb HF1 HF2 hs n0 ln
            go_wp2_with fail
            go_roundw
            case rel => exact ⟨k + 1, S, M, by omega, by go_num, by omega, by omega, HS1.out, HM1.out, HO1n.out, HO2n.out, HAP.out, HG3N.out⟩
            case measure => simp [intOf] <;> omega

      have hni : (n : Int) < NN := by omega
      have HCN := Lib.hid (HCM.out n wn (g3.t g3n))
      have hbn := HB3.out.keep g3n
      have m0 := hbn.cell 0
      have m1 := hbn.cell 1
      have m2 := hbn.cell 2
      have l0 := hbn.lt
      go_upto_region 13 with (first | (go_at_call 30; refine (HCN.out).mono ?_; rintro e w5 ⟨hG5, o, rfl, her, hps, hpr, hAT⟩; obtain ⟨hB1, hq1, hgo⟩ := case_G (n := n) HRB.out her hps hpr HQ0.out; have hPZ := ordC (caseR o (stOf r.protests n)) pn w5 hAT hB1 hq1; rw [caseR_v, hgo] at hPZ; have HPZ := Lib.hid hPZ; clear hgo hPZ hAT hB1 hq1) | (go_at_call 67; refine (HPZ.out).mono ?_; rintro e w6 ⟨sa, sc, rfl, hzi, hG6⟩))
      clear m0 m1 m2 l0
      have hfl := HFL.out (stOf r.protests n)
      have hFn := HFBb.out n
      have hfd : firstL (fuOf r pn none 0) (stOf r.protests n) = (orderL (fuOf r pn none 0) (stOf r.protests n)).getD 0 [] := rfl
      obtain ⟨GS, hGS⟩ : ∃ GS, GS = orderL (fuOf r pn none 0) (stOf r.protests n) := ⟨_, rfl⟩
      rw [hfd] at hfl hFn
      rw [← hGS] at hzi hfl hFn
      have HCS : Hid (cntT FB (n + 1) = ct + if FB n = true then 1 else 0) := by show _ = _; rw [HCT.out]; rfl
      have HFn := Lib.hid hFn
      have HZI := Lib.hid hzi
      have g56 := hG5.t hG6
      have gn6 := HGN.out.t g56
      have g36 := g3n.t g56
      rw [← hGS]
      clear hfd hGS hFn hzi hG5 hG6 her hps hpr HPZ HCT HGN hbn
      go_upto_region 13 with fail
      have n0 := ((bcellB g36).1 gn _ hgn).trans HN0.out
      have ln : gn < w6.heap.size := Nat.lt_of_lt_of_le hgn g36.size
      by_cases hz : 0 < GS.length
      · have hzz : decide ((0 : Int) < (GS.length : Int)) = true := decide_eq_true (by omega)
        obtain ⟨go, ga, gc, hse, hgo, hgc, hgi⟩ := HZI.out 0 hz
        subst hse
        have HGI := Lib.hid hgi
        clear hgi
        obtain ⟨gr, hgr⟩ : ∃ gr, gr = GS.getD 0 [] := ⟨_, rfl⟩
        rw [← hgr] at hfl HFn HGI hgc
        clear hgr
        refine wp_region_Y (S := fun W' => G w6 W') 12 13 rfl (by kernel_rfl) (G.rf _).d (fun hS => ?_)
        have gd : G w6 w6.drew := (G.rf _).d
        generalize w6.drew = WD2 at *
        refine wpAnyY_take (i := 0) (v := ?_) rfl (by kernel_rfl) (by kernel_rfl) (by kernel_rfl) (by kernel_rfl) (fun _ _ _ h => h) (Or.inl ⟨by kernel_rfl, ?_⟩) hS ?_
        rotate_left
        · intro w' hSw; go_simp; with_reducible rfl
        try simp only [Act.put, List.getElem_toArray, List.getElem_cons_zero, List.getElem_cons_succ, List.setIfInBounds_toArray, List.set_cons_zero, List.set_cons_succ]
        refine wpAnyY_take (i := 1) (v := ?_) rfl (by kernel_rfl) (by kernel_rfl) (by kernel_rfl) (by kernel_rfl) (fun _ _ _ h => h) (Or.inl ⟨by kernel_rfl, ?_⟩) hS ?_
        rotate_left
        · intro w' hSw; go_simp; with_reducible rfl
        try simp only [Act.put, List.getElem_toArray, List.getElem_cons_zero, List.getElem_cons_succ, List.setIfInBounds_toArray, List.set_cons_zero, List.set_cons_succ]
        refine wpAnyY_take (i := 2) (v := ?_) rfl (by kernel_rfl) (by kernel_rfl) (by kernel_rfl) (by kernel_rfl) (fun _ _ _ h => h) (Or.inl ⟨by kernel_rfl, ?_⟩) hS ?_
        rotate_left
        · intro w' hSw; go_simp; with_reducible rfl
        try simp only [Act.put, List.getElem_toArray, List.getElem_cons_zero, List.getElem_cons_succ, List.setIfInBounds_toArray, List.set_cons_zero, List.set_cons_succ]
        refine wpAnyY_take (i := 3) (v := ?_) rfl (by kernel_rfl) (by kernel_rfl) (by kernel_rfl) (by kernel_rfl) (fun _ _ _ h => h) (Or.inl ⟨by kernel_rfl, ?_⟩) hS ?_
        rotate_left
        · intro w' hSw; go_simp; with_reducible rfl
        try simp only [Act.put, List.getElem_toArray, List.getElem_cons_zero, List.getElem_cons_succ, List.setIfInBounds_toArray, List.set_cons_zero, List.set_cons_succ]
        refine wpAnyY_take (i := 4) (v := ?_) rfl (by kernel_rfl) (by kernel_rfl) (by kernel_rfl) (by kernel_rfl) (fun _ _ _ h => h) (Or.inl ⟨by kernel_rfl, ?_⟩) hS ?_
        rotate_left
        · intro w' hSw; go_simp; with_reducible rfl
        try simp only [Act.put, List.getElem_toArray, List.getElem_cons_zero, List.getElem_cons_succ, List.setIfInBounds_toArray, List.set_cons_zero, List.set_cons_succ]
        refine wpAnyY_take (i := 5) (v := ?_) rfl (by kernel_rfl) (by kernel_rfl) (by kernel_rfl) (by kernel_rfl) (fun _ _ _ h => h) (Or.inl ⟨by kernel_rfl, ?_⟩) hS ?_
        rotate_left
        · intro w' hSw; go_simp; with_reducible rfl
        try simp only [Act.put, List.getElem_toArray, List.getElem_cons_zero, List.getElem_cons_succ, List.setIfInBounds_toArray, List.set_cons_zero, List.set_cons_succ]
        refine wpAnyY_take (i := 6) (v := ?_) rfl (by kernel_rfl) (by kernel_rfl) (by kernel_rfl) (by kernel_rfl) (fun _ _ _ h => h) (Or.inl ⟨by kernel_rfl, ?_⟩) hS ?_
        rotate_left
        · intro w' hSw; have s0 := ((bcellB hSw).1 go _ hgo).trans hgc; have s1 : go < w'.heap.size := Nat.lt_of_lt_of_le hgo hSw.size; go_simp; with_reducible rfl
        try simp only [Act.put, List.getElem_toArray, List.getElem_cons_zero, List.getElem_cons_succ, List.setIfInBounds_toArray, List.set_cons_zero, List.set_cons_succ]
        refine wpAnyY_take (i := 7) (v := ?_) rfl (by kernel_rfl) (by kernel_rfl) (by kernel_rfl) (by kernel_rfl) (fun _ _ _ h => h) (Or.inl ⟨by kernel_rfl, ?_⟩) hS ?_
        rotate_left
        · intro w' hSw; go_simp; with_reducible rfl
        try simp only [Act.put, List.getElem_toArray, List.getElem_cons_zero, List.getElem_cons_succ, List.setIfInBounds_toArray, List.set_cons_zero, List.set_cons_succ]
        refine wpAnyY_take (i := 8) (v := ?_) rfl (by kernel_rfl) (by kernel_rfl) (by kernel_rfl) (by kernel_rfl) (fun _ _ _ h => h) (Or.inl ⟨by kernel_rfl, ?_⟩) hS ?_
        rotate_left
        · intro w' hSw; go_simp; with_reducible rfl
        try simp only [Act.put, List.getElem_toArray, List.getElem_cons_zero, List.getElem_cons_succ, List.setIfInBounds_toArray, List.set_cons_zero, List.set_cons_succ]
        refine wpAnyY_take (i := 9) (v := ?_) rfl (by kernel_rfl) (by kernel_rfl) (by kernel_rfl) (by kernel_rfl) (fun _ _ _ h => h) (Or.inl ⟨by kernel_rfl, ?_⟩) hS ?_
        rotate_left
        · intro w' hSw; go_simp; with_reducible rfl
        try simp only [Act.put, List.getElem_toArray, List.getElem_cons_zero, List.getElem_cons_succ, List.setIfInBounds_toArray, List.set_cons_zero, List.set_cons_succ]
        refine wpAnyY_take (i := 10) (v := ?_) rfl (by kernel_rfl) (by kernel_rfl) (by kernel_rfl) (by kernel_rfl) (fun _ _ _ h => h) (Or.inl ⟨by kernel_rfl, ?_⟩) hS ?_
        rotate_left
        · intro w' hSw; have s0 := ((bcellB hSw).1 gn _ ln).trans n0; have s1 : gn < w'.heap.size := Nat.lt_of_lt_of_le ln hSw.size; go_simp; with_reducible rfl
        try simp only [Act.put, List.getElem_toArray, List.getElem_cons_zero, List.getElem_cons_succ, List.setIfInBounds_toArray, List.set_cons_zero, List.set_cons_succ]
        refine wpAnyY_oneSW (i := 11) (by kernel_rfl) rfl (by kernel_rfl) (fun K11 hK11 => ?_)
        go_simp
        refine (In_any _ _ _ _ _ (HGI.out.below gd) hfl).mono ?_
        rw [← HFn.out]
        rintro e w7 ⟨rfl, hG7⟩
        replace gd := gd.t hG7
        refine hK11.out _ _ gd (fun hS => ?_)
        clear hK11
        try simp only [Act.put, List.getElem_toArray, List.getElem_cons_zero, List.getElem_cons_succ, List.setIfInBounds_toArray, List.set_cons_zero, List.set_cons_succ]
        refine wpAnyY_oneW (i := 12) (by kernel_rfl) rfl (by kernel_rfl) (by kernel_rfl) (fun K12 hK12 => ?_)
        go_simp
        refine hK12.out _ _ ?_
        clear hK12
        try simp only [Act.put, List.getElem_toArray, List.getElem_cons_zero, List.getElem_cons_succ, List.setIfInBounds_toArray, List.set_cons_zero, List.set_cons_succ]
        refine wpAnyY_done (by kernel_rfl) ?_ _
        have HGD := Lib.hid (gn6.t gd)
        clear hS hG7 n0 ln hgc hgo HGI hfl
        cases hfn : FB n
        · rw [hfn] at HCS
          have HC1 : Hid (ct = cntT FB (n + 1)) := by show _ = _; rw [HCS.out]; rfl
          clear HFn HCS hfn
          go_wp2_with fail
          go_roundw
          case rel => exact ⟨n + 1, ct, by omega, rfl, by go_num, by omega, HC1.out, HGD.out⟩
          case measure => simp [intOf] <;> omega
        · rw [hfn] at HCS
          have HC1 : Hid (ct + 1 = cntT FB (n + 1)) := by show _ = _; rw [HCS.out]; rfl
          clear HFn HCS hfn
          go_wp2_with fail
          go_roundw
          case rel => exact ⟨n + 1, ct + 1, by omega, by go_num, by go_num, by omega, HC1.out, HGD.out⟩
          case measure => simp [intOf] <;> omega
      · have hzz : decide ((0 : Int) < (GS.length : Int)) = false := decide_eq_false (by omega)
        have hg0 : GS.getD 0 [] = [] := by rw [List.getD_eq_getElem?_getD, List.getElem?_eq_none (by omega)]; rfl
        have hfn : FB n = false := by rw [HFn.out, hg0]; rfl
        rw [hfn] at HCS
        have HC1 : Hid (ct = cntT FB (n + 1)) := by show _ = _; rw [HCS.out]; rfl
        clear HFn HCS hfn hg0
        refine wp_region_Y (S := fun W' => G w6 W') 12 13 rfl (by kernel_rfl) (G.rf _).d (fun hS => ?_)
        have gd : G w6 w6.drew := (G.rf _).d
        generalize w6.drew = WD2 at *
        refine wpAnyY_take (i := 0) (v := ?_) rfl (by kernel_rfl) (by kernel_rfl) (by kernel_rfl) (by kernel_rfl) (fun _ _ _ h => h) (Or.inl ⟨by kernel_rfl, ?_⟩) hS ?_
        rotate_left
        · intro w' hSw; go_simp; with_reducible rfl
        try simp only [Act.put, List.getElem_toArray, List.getElem_cons_zero, List.getElem_cons_succ, List.setIfInBounds_toArray, List.set_cons_zero, List.set_cons_succ]
        refine wpAnyY_take (i := 1) (v := ?_) rfl (by kernel_rfl) (by kernel_rfl) (by kernel_rfl) (by kernel_rfl) (fun _ _ _ h => h) (Or.inl ⟨by kernel_rfl, ?_⟩) hS ?_
        rotate_left
        · intro w' hSw; go_simp; with_reducible rfl
        try simp only [Act.put, List.getElem_toArray, List.getElem_cons_zero, List.getElem_cons_succ, List.setIfInBounds_toArray, List.set_cons_zero, List.set_cons_succ]
        refine wpAnyY_take (i := 2) (v := ?_) rfl (by kernel_rfl) (by kernel_rfl) (by kernel_rfl) (by kernel_rfl) (fun _ _ _ h => h) (Or.inl ⟨by kernel_rfl, ?_⟩) hS ?_
        rotate_left
        · intro w' hSw; go_simp; with_reducible rfl
        try simp only [Act.put, List.getElem_toArray, List.getElem_cons_zero, List.getElem_cons_succ, List.setIfInBounds_toArray, List.set_cons_zero, List.set_cons_succ]
        refine wpAnyY_take (i := 3) (v := ?_) rfl (by kernel_rfl) (by kernel_rfl) (by kernel_rfl) (by kernel_rfl) (fun _ _ _ h => h) (Or.inl ⟨by kernel_rfl, ?_⟩) hS ?_
        rotate_left
        · intro w' hSw; go_simp; with_reducible rfl
        try simp only [Act.put, List.getElem_toArray, List.getElem_cons_zero, List.getElem_cons_succ, List.setIfInBounds_toArray, List.set_cons_zero, List.set_cons_succ]
        refine wpAnyY_take (i := 4) (v := undef) rfl (by kernel_rfl) (by kernel_rfl) (by kernel_rfl) (by kernel_rfl) (fun _ _ _ h => h) (Or.inr ⟨by kernel_rfl, rfl⟩) hS ?_
        try simp only [Act.put, List.getElem_toArray, List.getElem_cons_zero, List.getElem_cons_succ, List.setIfInBounds_toArray, List.set_cons_zero, List.set_cons_succ]
        refine wpAnyY_take (i := 5) (v := undef) rfl (by kernel_rfl) (by kernel_rfl) (by kernel_rfl) (by kernel_rfl) (fun _ _ _ h => h) (Or.inr ⟨by kernel_rfl, rfl⟩) hS ?_
        try simp only [Act.put, List.getElem_toArray, List.getElem_cons_zero, List.getElem_cons_succ, List.setIfInBounds_toArray, List.set_cons_zero, List.set_cons_succ]
        refine wpAnyY_take (i := 6) (v := undef) rfl (by kernel_rfl) (by kernel_rfl) (by kernel_rfl) (by kernel_rfl) (fun _ _ _ h => h) (Or.inr ⟨by kernel_rfl, rfl⟩) hS ?_
        try simp only [Act.put, List.getElem_toArray, List.getElem_cons_zero, List.getElem_cons_succ, List.setIfInBounds_toArray, List.set_cons_zero, List.set_cons_succ]
        refine wpAnyY_take (i := 7) (v := undef) rfl (by kernel_rfl) (by kernel_rfl) (by kernel_rfl) (by kernel_rfl) (fun _ _ _ h => h) (Or.inr ⟨by kernel_rfl, rfl⟩) hS ?_
        try simp only [Act.put, List.getElem_toArray, List.getElem_cons_zero, List.getElem_cons_succ, List.setIfInBounds_toArray, List.set_cons_zero, List.set_cons_succ]
        refine wpAnyY_take (i := 8) (v := undef) rfl (by kernel_rfl) (by kernel_rfl) (by kernel_rfl) (by kernel_rfl) (fun _ _ _ h => h) (Or.inr ⟨by kernel_rfl, rfl⟩) hS ?_
        try simp only [Act.put, List.getElem_toArray, List.getElem_cons_zero, List.getElem_cons_succ, List.setIfInBounds_toArray, List.set_cons_zero, List.set_cons_succ]
        refine wpAnyY_take (i := 9) (v := undef) rfl (by kernel_rfl) (by kernel_rfl) (by kernel_rfl) (by kernel_rfl) (fun _ _ _ h => h) (Or.inr ⟨by kernel_rfl, rfl⟩) hS ?_
        try simp only [Act.put, List.getElem_toArray, List.getElem_cons_zero, List.getElem_cons_succ, List.setIfInBounds_toArray, List.set_cons_zero, List.set_cons_succ]
        refine wpAnyY_take (i := 10) (v := undef) rfl (by kernel_rfl) (by kernel_rfl) (by kernel_rfl) (by kernel_rfl) (fun _ _ _ h => h) (Or.inr ⟨by kernel_rfl, rfl⟩) hS ?_
        try simp only [Act.put, List.getElem_toArray, List.getElem_cons_zero, List.getElem_cons_succ, List.setIfInBounds_toArray, List.set_cons_zero, List.set_cons_succ]
        refine wpAnyY_oneSU (i := 11) (by kernel_rfl) rfl (by kernel_rfl) hS ?_
        try simp only [Act.put, List.getElem_toArray, List.getElem_cons_zero, List.getElem_cons_succ, List.setIfInBounds_toArray, List.set_cons_zero, List.set_cons_succ]
        refine wpAnyY_oneW (i := 12) (by kernel_rfl) rfl (by kernel_rfl) (by kernel_rfl) (fun K12 hK12 => ?_)
        go_simp
        refine hK12.out _ _ ?_
        clear hK12
        try simp only [Act.put, List.getElem_toArray, List.getElem_cons_zero, List.getElem_cons_succ, List.setIfInBounds_toArray, List.set_cons_zero, List.set_cons_succ]
        refine wpAnyY_done (by kernel_rfl) ?_ _
        have HGD := Lib.hid (gn6.t gd)
        clear hS n0 ln hfl
        go_wp2_with fail
        go_roundw
        case rel => exact ⟨n + 1, ct, by omega, rfl, by go_num, by omega, HC1.out, HGD.out⟩
        case measure => simp [intOf] <;> omega

end Go.Proofs.YtnkmcoljijmgpaaGreat

set_option linter.unusedSimpArgs false
set_option linter.unusedVariables false
namespace Go.Proofs.YtnkmcoljijmgpaaGreat
open Go.RowKit Go.Shelf Go.Sort Go.Maps
attribute [local go_sem] Oper.semAt_some
theorem copy_at {W : World} {B : Nat} {r o : Ra} (hAT : r.At W) (hc : CpIs W B r o) : o.At W := by
  have hlo : o.racers.length = r.racers.length := by
    have e := congrArg List.length hc.er
    simpa using e
  refine cp_at3 (o := o) (B1 := B) (B2 := B) hAT hc.rr (fun y hy => ?_) hlo hc.pr hc.pt hc.tr hc.ep (by rw [hc.et]; exact hAT.nt)
  obtain ⟨a', c', e, hI⟩ := own_ints (hc.rp y hy)
  injection e with e3 _ _
  refine ⟨by rw [e3]; exact hI, ?_⟩
  obtain ⟨z, hz, e4⟩ := mem_P hc.er hy
  obtain ⟨i, hi, rfl⟩ := List.mem_iff_getElem.1 hz
  have h5 := hAT.nq i hi
  rw [List.getD_eq_getElem?_getD, List.getElem?_eq_getElem hi] at h5
  have e5 : (r.racers[i]).pools = y.pools := congrArg (fun q => q.2.2.2.2) e4
  rw [← e5]
  exact h5
theorem race_copy {r o : Ra} (her : o.racers.map rcP = r.racers.map rcP) (hps : o.pools.map poP = r.pools.map poP) (hpr : o.protests = r.protests) : raceB o = raceB r := by
  cases hr : raceB r
  · cases ho : raceB o
    · rfl
    · rw [(req_copy ho her.symm hps.symm hpr.symm).2] at hr
      cases hr
  · exact (req_copy hr her hps hpr).2
def PLX (r : Ra) (p : Int) : List Int := if qE r p [] = 0 then placesL (fuOf r p none 0) else []
def GSX (r : Ra) (p : Int) : List (List Int) := if qE r p [] = 0 then orderL (fuOf r p none 0) [] else []
def PZX (r : Ra) (p : Int) : List Pz := if qE r p [] = 0 then prizesL (fuOf r p none 0) else []
def POX (r : Ra) (p : Int) : Int × Int × Int × Int := if qE r p [] = 0 then (totI (fuOf r p none 0), kepI (fuOf r p none 0), lefI (fuOf r p none 0), resI (fuOf r p none 0) []) else (0, 0, 0, 0)
theorem placesP {f g : Fu} (hp : poP f.po = poP g.po) (hr : f.rs.map rcK = g.rs.map rcK) : placesL f = placesL g := by
  have hl : f.rs.length = g.rs.length := by
    have e := congrArg List.length hr
    simpa using e
  obtain ⟨⟨a0, a1, a2, a3, a4, a5, a6, a7⟩, b1, b2, b3, b4, b5, b6⟩ := f
  obtain ⟨⟨c0, c1, c2, c3, c4, c5, c6, c7⟩, d1, d2, d3, d4, d5, d6⟩ := g
  unfold poP at hp
  simp only [Prod.mk.injEq] at hp
  dsimp only at hl
  obtain ⟨rfl, rfl, rfl, rfl, rfl, rfl⟩ := hp
  unfold placesL nPl lefI kepI totI
  dsimp only
  rw [hl]
theorem copy_X {r o : Ra} (her : o.racers.map rcP = r.racers.map rcP) (hps : o.pools.map poP = r.pools.map poP) (hpr : o.protests = r.protests) (p : Int) :
    qE o p [] = qE r p [] ∧ PLX o p = PLX r p ∧ GSX o p = GSX r p ∧ PZX o p = PZX r p ∧ POX o p = POX r p := by
  cases hr : raceB r
  · have ho := race_copy her hps hpr
    rw [hr] at ho
    have e1 : qE r p [] = 80 := by unfold qE; rw [if_neg (by rw [hr]; decide)]
    have e2 : qE o p [] = 80 := by unfold qE; rw [if_neg (by rw [ho]; decide)]
    have n1 : ¬ (80 : Int) = 0 := by decide
    refine ⟨by rw [e1, e2], ?_, ?_, ?_, ?_⟩
    · unfold PLX; rw [e1, e2, if_neg n1, if_neg n1]
    · unfold GSX; rw [e1, e2, if_neg n1, if_neg n1]
    · unfold PZX; rw [e1, e2, if_neg n1, if_neg n1]
    · unfold POX; rw [e1, e2, if_neg n1, if_neg n1]
  · obtain ⟨hq, ho⟩ := req_copy hr her hps hpr
    have e1 := qE_E hq hr ho p []
    have hp := hq.po p
    have hk := K_of_Q (hq.rs p)
    refine ⟨e1, ?_, ?_, ?_, ?_⟩
    · unfold PLX; rw [e1, placesP (f := fuOf o p none 0) (g := fuOf r p none 0) hp hk]
    · unfold GSX; rw [e1, orderP (f := fuOf o p none 0) (g := fuOf r p none 0) hp hk]
    · unfold PZX; rw [e1, prizesE hq p]
    · unfold POX
      have e := potP (f := fuOf o p none 0) (g := fuOf r p none 0) hp hk
      unfold potV at e
      simp only [Array.mk.injEq, List.cons.injEq, Value.int.injEq, true_and, and_true] at e
      obtain ⟨h1, h2, h3, h4⟩ := e
      rw [e1, h1, h2, h3, h4]
set_option maxRecDepth 100000 in
set_option maxHeartbeats 4000000 in
theorem same35_any (l : List Int) (a b : Option Addr) (c d : Nat) (w : World) (h1 : IntsAt w a l) (h2 : IntsAt w b l) (hl : l.length ≤ 1000) : Calls Tryz.prog 35 #[.slice a l.length c, .slice b l.length d] w fun e w' => e = .returned (.bool true) ∧ G w w' := by
  go_enter Tryz.func35, Tryz.ntmps35
  go_wp2_with fail
  go_loopw [5] (fun i wr => ∃ k : Nat, k ≤ l.length ∧ i = .int .i64 k ∧ G w wr) (fun i _ => l.length - (intOf i).toNat)
  case atStart => exact ⟨0, Nat.zero_le _, rfl, G.rf _⟩
  case round =>
    obtain ⟨k, hk, rfl, hG⟩ := hrel
    obtain ⟨wo, rfl⟩ : ∃ wo, wo = wr := ⟨_, rfl⟩
    by_cases hlt : k < l.length
    · have hki : (k : Int) < l.length := by omega
      rcases h1.below hG with h | ⟨g1, o1, rfl, hg1, hc1⟩
      · rw [h] at hlt; simp at hlt
      rcases h2.below hG with h | ⟨g2, o2, rfl, hg2, hc2⟩
      · rw [h] at hlt; simp at hlt
      have e1 := hc1 k hlt
      have e2 := hc2 k hlt
      obtain ⟨y, hy⟩ : ∃ y, y = l.getD k 0 := ⟨_, rfl⟩
      rw [← hy] at e1 e2
      clear hy hc1 hc2
      go_upto_region 6 with fail
      refine wp_region_Y (S := fun W' => G wo W') 8 9 rfl (by kernel_rfl) (G.rf _).d (fun hS => ?_)
      have ga := (G.rf wo).d
      refine wpAnyY_take (i := 0) (v := ?_) rfl (by kernel_rfl) (by kernel_rfl) (by kernel_rfl) (by kernel_rfl) (fun _ _ _ h => h) (Or.inl ⟨by kernel_rfl, ?_⟩) hS ?_
      rotate_left
      · intro w' hSw; go_simp; with_reducible rfl
      try simp only [Act.put, List.getElem_toArray, List.getElem_cons_zero, List.getElem_cons_succ, List.setIfInBounds_toArray, List.set_cons_zero, List.set_cons_succ]
      refine wpAnyY_take (i := 1) (v := ?_) rfl (by kernel_rfl) (by kernel_rfl) (by kernel_rfl) (by kernel_rfl) (fun _ _ _ h => h) (Or.inl ⟨by kernel_rfl, ?_⟩) hS ?_
      rotate_left
      · intro w' hSw; go_simp; with_reducible rfl
      try simp only [Act.put, List.getElem_toArray, List.getElem_cons_zero, List.getElem_cons_succ, List.setIfInBounds_toArray, List.set_cons_zero, List.set_cons_succ]
      refine wpAnyY_take (i := 2) (v := ?_) rfl (by kernel_rfl) (by kernel_rfl) (by kernel_rfl) (by kernel_rfl) (fun _ _ _ h => h) (Or.inl ⟨by kernel_rfl, ?_⟩) hS ?_
      rotate_left
      · intro w' hSw; go_simp; with_reducible rfl
      try simp only [Act.put, List.getElem_toArray, List.getElem_cons_zero, List.getElem_cons_succ, List.setIfInBounds_toArray, List.set_cons_zero, List.set_cons_succ]
      refine wpAnyY_take (i := 3) (v := ?_) rfl (by kernel_rfl) (by kernel_rfl) (by kernel_rfl) (by kernel_rfl) (fun _ _ _ h => h) (Or.inl ⟨by kernel_rfl, ?_⟩) hS ?_
      rotate_left
      · intro w' hSw; have s0 := ((bcellB hSw).1 g1 _ hg1).trans e1; have s1 : g1 < w'.heap.size := Nat.lt_of_lt_of_le hg1 hSw.size; go_simp; with_reducible rfl
      try simp only [Act.put, List.getElem_toArray, List.getElem_cons_zero, List.getElem_cons_succ, List.setIfInBounds_toArray, List.set_cons_zero, List.set_cons_succ]
      refine wpAnyY_take (i := 4) (v := ?_) rfl (by kernel_rfl) (by kernel_rfl) (by kernel_rfl) (by kernel_rfl) (fun _ _ _ h => h) (Or.inl ⟨by kernel_rfl, ?_⟩) hS ?_
      rotate_left
      · intro w' hSw; go_simp; with_reducible rfl
      try simp only [Act.put, List.getElem_toArray, List.getElem_cons_zero, List.getElem_cons_succ, List.setIfInBounds_toArray, List.set_cons_zero, List.set_cons_succ]
      refine wpAnyY_take (i := 5) (v := ?_) rfl (by kernel_rfl) (by kernel_rfl) (by kernel_rfl) (by kernel_rfl) (fun _ _ _ h => h) (Or.inl ⟨by kernel_rfl, ?_⟩) hS ?_
      rotate_left
      · intro w' hSw; go_simp; with_reducible rfl
      try simp only [Act.put, List.getElem_toArray, List.getElem_cons_zero, List.getElem_cons_succ, List.setIfInBounds_toArray, List.set_cons_zero, List.set_cons_succ]
      refine wpAnyY_take (i := 6) (v := ?_) rfl (by kernel_rfl) (by kernel_rfl) (by kernel_rfl) (by kernel_rfl) (fun _ _ _ h => h) (Or.inl ⟨by kernel_rfl, ?_⟩) hS ?_
      rotate_left
      · intro w' hSw; go_simp; with_reducible rfl
      try simp only [Act.put, List.getElem_toArray, List.getElem_cons_zero, List.getElem_cons_succ, List.setIfInBounds_toArray, List.set_cons_zero, List.set_cons_succ]
      refine wpAnyY_take (i := 7) (v := ?_) rfl (by kernel_rfl) (by kernel_rfl) (by kernel_rfl) (by kernel_rfl) (fun _ _ _ h => h) (Or.inl ⟨by kernel_rfl, ?_⟩) hS ?_
      rotate_left
      · intro w' hSw; have s0 := ((bcellB hSw).1 g2 _ hg2).trans e2; have s1 : g2 < w'.heap.size := Nat.lt_of_lt_of_le hg2 hSw.size; go_simp; with_reducible rfl
      try simp only [Act.put, List.getElem_toArray, List.getElem_cons_zero, List.getElem_cons_succ, List.setIfInBounds_toArray, List.set_cons_zero, List.set_cons_succ]
      refine wpAnyY_oneW (i := 8) (by kernel_rfl) rfl (by kernel_rfl) (by kernel_rfl) (fun K8 hK8 => ?_)
      go_simp
      refine hK8.out _ _ ?_
      clear hK8
      try simp only [Act.put, List.getElem_toArray, List.getElem_cons_zero, List.getElem_cons_succ, List.setIfInBounds_toArray, List.set_cons_zero, List.set_cons_succ]
      refine wpAnyY_done (by kernel_rfl) ?_ _
      clear hS
      go_wp2_with fail
      go_roundw
      case rel => exact ⟨k + 1, by omega, by go_num, hG.t ga⟩
      case measure => simp [intOf] <;> omega
    · obtain rfl : k = l.length := by omega
      have hki : ¬ ((l.length : Nat) : Int) < l.length := by omega
      go_wp2_with fail
      go_ret
      exact ⟨rfl, hG⟩
end Go.Proofs.YtnkmcoljijmgpaaGreat

set_option linter.unusedSimpArgs false
set_option linter.unusedVariables false
namespace Go.Proofs.YtnkmcoljijmgpaaGreat
open Go.RowKit Go.Shelf Go.Sort Go.Maps
attribute [local go_sem] Oper.semAt_some
def SUX (r : Ra) (p : Int) : List Int := if qE r p [] = 0 then (namedL r p).filter (sureB (fuOf r p none 0) r.protests) else []
def MAX (r : Ra) (p : Int) : List Int := if qE r p [] = 0 then (namedL r p).filter (maybB (fuOf r p none 0) r.protests) else []
theorem fiX_of1 {r : Ra} {p : Int} {w w' : World} {e : Ending} (h : FiPost r p w e w') : G w w' ∧ ∃ a1 c1 a2 c2, e = .returned (.tuple #[.slice a1 (SUX r p).length c1, .slice a2 (MAX r p).length c2, .int .i64 (qE r p [])]) ∧ IntsAt w' a1 (SUX r p) ∧ IntsAt w' a2 (MAX r p) := by
  obtain ⟨hG, ⟨h1, rfl⟩ | ⟨h1, v1, v2, S, M, rfl, o1, o2, hf⟩⟩ := h
  · have s1 : SUX r p = [] := by unfold SUX; rw [if_neg h1]
    have s2 : MAX r p = [] := by unfold MAX; rw [if_neg h1]
    exact ⟨hG, none, 0, none, 0, by rw [s1, s2]; rfl, by rw [s1]; exact .inl rfl, by rw [s2]; exact .inl rfl⟩
  · obtain ⟨e1, e2⟩ := first_eq (qE_parts h1).1 hf
    have s1 : SUX r p = S := by unfold SUX; rw [if_pos h1, e1]
    have s2 : MAX r p = M := by unfold MAX; rw [if_pos h1, e2]
    obtain ⟨a1, c1, rfl, i1⟩ := own_ints o1
    obtain ⟨a2, c2, rfl, i2⟩ := own_ints o2
    exact ⟨hG, a1, c1, a2, c2, by rw [s1, s2, h1], by rw [s1]; exact i1, by rw [s2]; exact i2⟩
theorem fiX_of2 {r : Ra} {p : Int} {w w' : World} {e : Ending} (h : FiR r p w e w') : G w w' ∧ ∃ a1 c1 a2 c2, e = .returned (.tuple #[.slice a1 (SUX r p).length c1, .slice a2 (MAX r p).length c2, .int .i64 (qE r p [])]) ∧ IntsAt w' a1 (SUX r p) ∧ IntsAt w' a2 (MAX r p) := by
  obtain ⟨hG, ⟨h1, rfl⟩ | ⟨h1, v1, v2, rfl, o1, o2⟩⟩ := h
  · have s1 : SUX r p = [] := by unfold SUX; rw [if_neg h1]
    have s2 : MAX r p = [] := by unfold MAX; rw [if_neg h1]
    exact ⟨hG, none, 0, none, 0, by rw [s1, s2]; rfl, by rw [s1]; exact .inl rfl, by rw [s2]; exact .inl rfl⟩
  · have s1 : SUX r p = (namedL r p).filter (sureB (fuOf r p none 0) r.protests) := by unfold SUX; rw [if_pos h1]
    have s2 : MAX r p = (namedL r p).filter (maybB (fuOf r p none 0) r.protests) := by unfold MAX; rw [if_pos h1]
    rw [← s1] at o1
    rw [← s2] at o2
    obtain ⟨a1, c1, rfl, i1⟩ := own_ints o1
    obtain ⟨a2, c2, rfl, i2⟩ := own_ints o2
    exact ⟨hG, a1, c1, a2, c2, by rw [h1], i1, i2⟩
theorem fiX_len {r : Ra} (h : r.racers.length ≤ 1000) (p : Int) : (SUX r p).length ≤ 1000 ∧ (MAX r p).length ≤ 1000 := by
  have hn : (namedL r p).length ≤ 1000 := by
    unfold namedL
    rw [List.length_map]
    have := runners_len r p
    omega
  unfold SUX MAX
  by_cases h1 : qE r p [] = 0
  · rw [if_pos h1, if_pos h1]
    exact ⟨Nat.le_trans (List.length_filter_le _ _) hn, Nat.le_trans (List.length_filter_le _ _) hn⟩
  · rw [if_neg h1, if_neg h1]
    simp
theorem fiX_copy {r o : Ra} (her : o.racers.map rcP = r.racers.map rcP) (hps : o.pools.map poP = r.pools.map poP) (hpr : o.protests = r.protests) (p b : Int) : SUX o p = SUX r p ∧ MAX o p = MAX r p ∧ canT o p b = canT r p b := by
  cases hr : raceB r
  · have ho := race_copy her hps hpr
    rw [hr] at ho
    have e1 : ∀ bs, qE r p bs = 80 := fun bs => by unfold qE; rw [if_neg (by rw [hr]; decide)]
    have e2 : ∀ bs, qE o p bs = 80 := fun bs => by unfold qE; rw [if_neg (by rw [ho]; decide)]
    have n1 : ¬ (80 : Int) = 0 := by decide
    unfold SUX MAX canT
    rw [e1, e2, if_neg n1, if_neg n1, if_neg n1, if_neg n1, e1, e2, if_neg n1, if_neg n1]
    exact ⟨rfl, rfl, rfl⟩
  · obtain ⟨hq, ho⟩ := req_copy hr her hps hpr
    have e1 := qE_E hq hr ho p []
    have hp := hq.po p
    have hk := K_of_Q (hq.rs p)
    have hnm : namedL o p = namedL r p := by
      have a : ∀ l : List Rc, l.map Rc.bird = (l.map rcQ).map Prod.fst := fun l => by
        rw [List.map_map]
        rfl
      unfold namedL
      rw [a, a, hq.rs p]
    have hfb : ∀ b n, firB (fuOf o p none 0) o.protests b n = firB (fuOf r p none 0) r.protests b n := fun b n => by
      unfold firB firstL
      rw [hpr, orderP (f := fuOf o p none 0) (g := fuOf r p none 0) hp hk]
    have hsb : sureB (fuOf o p none 0) o.protests = sureB (fuOf r p none 0) r.protests := funext fun b => by
      unfold sureB
      rw [show firB (fuOf o p none 0) o.protests b = firB (fuOf r p none 0) r.protests b from funext fun n => hfb b n, hpr]
    have hmb : maybB (fuOf o p none 0) o.protests = maybB (fuOf r p none 0) r.protests := funext fun b => by
      unfold maybB
      rw [hsb, show firB (fuOf o p none 0) o.protests b = firB (fuOf r p none 0) r.protests b from funext fun n => hfb b n, hpr]
    refine ⟨?_, ?_, canE hq hr ho p b⟩
    · unfold SUX; rw [e1, hnm, hsb]
    · unfold MAX; rw [e1, hnm, hmb]
set_option maxRecDepth 100000 in
set_option maxHeartbeats 16000000 in
theorem OpenLaw (r : Ra) (p b : Int) (w : World) (h : r.Laid w) (hn : r.Nil) : Calls Tryz.prog 12 #[.agg r.v, .int .i64 p, .int .i64 b] w fun e w' => e = .returned (.bool true) ∧ G w w' := by
  have HFA := Lib.hid (fun (W : World) (hW : G w W) => Far8_any r W (h.keep hW))
  have HWK := Lib.hid (fun (W : World) => works_any W)
  have hrv : r.v = #[.slice r.ra r.racers.length r.rc, .slice r.pa r.pools.length r.pc, .slice r.ta r.protests.length r.tc] := rfl
  obtain ⟨W1, hW1⟩ : ∃ W1, W1 = w.alloc (.cells #[.slice r.ra r.racers.length r.rc, .slice r.pa r.pools.length r.pc, .slice r.ta r.protests.length r.tc] 26) := ⟨_, rfl⟩
  have g00 : G w W1 := by rw [hW1]; exact (G.rf _).a _
  have b0 : Blk W1 w.heap.size 26 #[.slice r.ra r.racers.length r.rc, .slice r.pa r.pools.length r.pc, .slice r.ta r.protests.length r.tc] := by rw [hW1]; exact Blk.new _ _ _
  rw [hrv] at HFA ⊢
  go_enter Tryz.func12, Tryz.ntmps12
  go_upto_region 1 with fail
  change Code.wp _ _ _ _ (w.alloc (.cells #[.slice r.ra r.racers.length r.rc, .slice r.pa r.pools.length r.pc, .slice r.ta r.protests.length r.tc] 26))
  rw [← hW1]
  clear hW1
  have m0 := b0.cell 0
  have m1 := b0.cell 1
  have m2 := b0.cell 2
  have l0 := b0.lt
  cases hFB : farR r
  rotate_left
  · rw [hFB] at HFA
    clear h hn
    go_wp2_with (first | (go_at_call 13; refine (HFA.out _ g00).mono ?_; rintro e w2 ⟨rfl, hG2⟩) | (go_at_call 15; refine (HWK.out _).mono ?_; rintro e w3 ⟨rfl, hG3⟩))
    have gz := (g00.t hG2).t hG3
    first | exact ⟨rfl, gz⟩ | (go_ret; exact ⟨rfl, gz⟩)
  rw [hFB] at HFA
  have hat := h.at hFB
  have HCP := Lib.hid (fun (W : World) (hW : G w W) => (show Calls Tryz.prog 24 #[.agg r.v] W (fun e w' => G W w' ∧ ∃ o : Ra, e = .returned (.agg #[.slice o.ra o.racers.length o.rc, .slice o.pa o.pools.length o.pc, .slice o.ta o.protests.length o.tc]) ∧ CpIs w' W.heap.size r o) from Copy_any r W (hat.keep hW) hn))
  rw [hrv] at HCP
  clear h hFB
  go_upto_region 4 with (first | (go_at_call 13; refine (HFA.out _ g00).mono ?_; rintro e w2 ⟨rfl, hG2⟩; have b02 := b0.keep hG2; have g2 := g00.t hG2; clear m0 m1 m2 l0; have m0 := b02.cell 0; have m1 := b02.cell 1; have m2 := b02.cell 2; have l0 := b02.lt) | (go_at_call 24; refine (HCP.out _ g2).mono ?_; rintro e w3 ⟨hG3, o, rfl, hCP⟩))
  have g04 := (g2.t hG3).a (.cells #[.slice o.ra o.racers.length o.rc, .slice o.pa o.pools.length o.pc, .slice o.ta o.protests.length o.tc] 26)
  have hB0 := (b02.keep hG3).alloc (.cells #[.slice o.ra o.racers.length o.rc, .slice o.pa o.pools.length o.pc, .slice o.ta o.protests.length o.tc] 26)
  have hBK := Blk.new w3 26 #[.slice o.ra o.racers.length o.rc, .slice o.pa o.pools.length o.pc, .slice o.ta o.protests.length o.tc]
  have hoA3 := copy_at ((hat.keep (g2.t hG3))) hCP
  have hoA := hoA3.keep ((G.rf w3).a (.cells #[.slice o.ra o.racers.length o.rc, .slice o.pa o.pools.length o.pc, .slice o.ta o.protests.length o.tc] 26))
  obtain ⟨hq, hx1, hx2, hx3, hx4⟩ := copy_X hCP.er hCP.ep hCP.et p
  have hrb := race_copy hCP.er hCP.ep hCP.et
  have hr4 := hat.keep g04
  obtain ⟨hs1, hs2, hs3⟩ := fiX_copy hCP.er hCP.ep hCP.et p b
  have HC25 : Hid (∀ W, G (w3.alloc (.cells #[.slice o.ra o.racers.length o.rc, .slice o.pa o.pools.length o.pc, .slice o.ta o.protests.length o.tc] 26)) W → Calls Tryz.prog 25 #[.agg #[.slice o.ra o.racers.length o.rc, .slice o.pa o.pools.length o.pc, .slice o.ta o.protests.length o.tc], .int .i64 p, .int .i64 b] W fun e w' => G W w' ∧ e = .returned (.tuple #[.agg #[.int .i64 (canT r p b).1, .int .i64 (canT r p b).2.1], .int .i64 (canT r p b).2.2])) := fun W hW => by
    have hc := canC o p b W (hoA.keep hW)
    rw [hs3] at hc
    exact hc
  have HC40 : Hid (∀ W, G (w3.alloc (.cells #[.slice o.ra o.racers.length o.rc, .slice o.pa o.pools.length o.pc, .slice o.ta o.protests.length o.tc] 26)) W → Calls Tryz.prog 40 #[.agg #[.slice r.ra r.racers.length r.rc, .slice r.pa r.pools.length r.pc, .slice r.ta r.protests.length r.tc], .int .i64 p, .int .i64 b] W fun e w' => G W w' ∧ e = .returned (.tuple #[.agg #[.int .i64 (canT r p b).1, .int .i64 (canT r p b).2.1], .int .i64 (canT r p b).2.2])) := fun W hW => rCan_any r p b W (hr4.keep hW) hn
  have HC29 : Hid (∀ W, G (w3.alloc (.cells #[.slice o.ra o.racers.length o.rc, .slice o.pa o.pools.length o.pc, .slice o.ta o.protests.length o.tc] 26)) W → Calls Tryz.prog 29 #[.agg #[.slice o.ra o.racers.length o.rc, .slice o.pa o.pools.length o.pc, .slice o.ta o.protests.length o.tc], .int .i64 p] W fun e w' => G W w' ∧ ∃ a1 c1 a2 c2, e = .returned (.tuple #[.slice a1 (SUX r p).length c1, .slice a2 (MAX r p).length c2, .int .i64 (qE r p [])]) ∧ IntsAt w' a1 (SUX r p) ∧ IntsAt w' a2 (MAX r p)) := fun W hW => by
    have hc := (First_any o p W (hoA.keep hW)).mono fun _ _ hh => fiX_of1 hh
    rw [hq, hs1, hs2] at hc
    exact hc
  have HC41 : Hid (∀ W, G (w3.alloc (.cells #[.slice o.ra o.racers.length o.rc, .slice o.pa o.pools.length o.pc, .slice o.ta o.protests.length o.tc] 26)) W → Calls Tryz.prog 41 #[.agg #[.slice r.ra r.racers.length r.rc, .slice r.pa r.pools.length r.pc, .slice r.ta r.protests.length r.tc], .int .i64 p] W fun e w' => G W w' ∧ ∃ a1 c1 a2 c2, e = .returned (.tuple #[.slice a1 (SUX r p).length c1, .slice a2 (MAX r p).length c2, .int .i64 (qE r p [])]) ∧ IntsAt w' a1 (SUX r p) ∧ IntsAt w' a2 (MAX r p)) := fun W hW => (rFirst_any r p W (hr4.keep hW) hn).mono fun _ _ hh => fiX_of2 hh
  obtain ⟨hl1, hl2⟩ := fiX_len (r := r) hat.nr p
  generalize (canT r p b).1 = t1 at *
  generalize (canT r p b).2.1 = t2 at *
  generalize (canT r p b).2.2 = CE at *
  generalize qE r p [] = QE at *
  generalize SUX r p = SL at *
  generalize MAX r p = ML at *
  have HB0 := Lib.hid hB0
  have HBK := Lib.hid hBK
  clear hB0 hBK hoA3 hoA hq hx1 hx2 hx3 hx4 hrb hr4 hs1 hs2 hs3 hn hCP hG3 hG2 g2 b02 b0 g00 m0 m1 m2 l0 hat HCP HFA hrv
  change Code.wp _ _ _ _ (w3.alloc (.cells #[.slice o.ra o.racers.length o.rc, .slice o.pa o.pools.length o.pc, .slice o.ta o.protests.length o.tc] 26))
  obtain ⟨K, hK⟩ : ∃ K, K = w3.heap.size := ⟨_, rfl⟩
  rw [← hK] at HBK ⊢
  clear hK
  generalize w3.alloc (.cells #[.slice o.ra o.racers.length o.rc, .slice o.pa o.pools.length o.pc, .slice o.ta o.protests.length o.tc] 26) = W4 at *
  have g0 : G W4 W4 := G.rf _
  have m0 := (HBK.out.keep g0).cell 0
  have m1 := (HBK.out.keep g0).cell 1
  have m2 := (HBK.out.keep g0).cell 2
  have l0 := (HBK.out.keep g0).lt
  go_upto_region 5 with (go_at_call 25; refine (HC25.out _ g0).mono ?_; rintro e v0 ⟨hG0, rfl⟩)
  clear m0 m1 m2 l0
  have HK1a := Lib.hid (Blk.new v0 62 #[.int .i64 t1, .int .i64 t2])
  have g1 := (g0.t hG0).a (.cells #[.int .i64 t1, .int .i64 t2] 62)
  change Code.wp _ _ _ _ (v0.alloc (.cells #[.int .i64 t1, .int .i64 t2] 62))
  obtain ⟨K1, hK1⟩ : ∃ K1, K1 = v0.heap.size := ⟨_, rfl⟩
  rw [← hK1] at HK1a ⊢
  clear hK1
  generalize v0.alloc (.cells #[.int .i64 t1, .int .i64 t2] 62) = W5 at *
  clear hG0
  have m0 := (HB0.out.keep g1).cell 0
  have m1 := (HB0.out.keep g1).cell 1
  have m2 := (HB0.out.keep g1).cell 2
  have l0 := (HB0.out.keep g1).lt
  go_upto_region 6 with (go_at_call 40; refine (HC40.out _ g1).mono ?_; rintro e v1 ⟨hG1, rfl⟩)
  clear m0 m1 m2 l0
  have HK2a := Lib.hid (Blk.new v1 62 #[.int .i64 t1, .int .i64 t2])
  have ga1 := hG1.a (.cells #[.int .i64 t1, .int .i64 t2] 62)
  have g2 := g1.t ga1
  have HK1b := Lib.hid (HK1a.out.keep ga1)
  change Code.wp _ _ _ _ (v1.alloc (.cells #[.int .i64 t1, .int .i64 t2] 62))
  obtain ⟨K2, hK2⟩ : ∃ K2, K2 = v1.heap.size := ⟨_, rfl⟩
  rw [← hK2] at HK2a ⊢
  clear hK2
  generalize v1.alloc (.cells #[.int .i64 t1, .int .i64 t2] 62) = W6 at *
  clear hG1 ga1 HK1a g1
  have m0 := (HBK.out.keep g2).cell 0
  have m1 := (HBK.out.keep g2).cell 1
  have m2 := (HBK.out.keep g2).cell 2
  have l0 := (HBK.out.keep g2).lt
  go_upto_region 7 with (go_at_call 29; refine (HC29.out _ g2).mono ?_; rintro e v2 ⟨hG2, a1, c1, a2, c2, rfl, hi1, hi2⟩)
  clear m0 m1 m2 l0
  have g3 := g2.t hG2
  have m0 := (HB0.out.keep g3).cell 0
  have m1 := (HB0.out.keep g3).cell 1
  have m2 := (HB0.out.keep g3).cell 2
  have l0 := (HB0.out.keep g3).lt
  go_upto_region 8 with (go_at_call 41; refine (HC41.out _ g3).mono ?_; rintro e v3 ⟨hG3, a3, c3, a4, c4, rfl, hi3, hi4⟩)
  clear m0 m1 m2 l0
  have g4 := g3.t hG3
  have h24 := hG2.t hG3
  have bA := HK1b.out.keep h24
  have bB := HK2a.out.keep h24
  have x0 := bA.cell 0
  have x1 := bA.cell 1
  have lx := bA.lt
  have y0 := bB.cell 0
  have y1 := bB.cell 1
  have ly := bB.lt
  have HS1 := Lib.hid (same35_any SL a1 a3 c1 c3 v3 (hi1.below hG3) hi3 hl1)
  have HS2 := Lib.hid (fun (W : World) (hW : G v3 W) => same35_any ML a2 a4 c2 c4 W ((hi2.below hG3).below hW) (hi4.below hW) hl2)
  clear hi1 hi2 hi3 hi4 hG2 hG3 h24 HK1b HK2a bA bB g0 g2 g3 HC25 HC40 HC29 HC41
  go_wp2_with (first | (go_at_call 35; refine (HS1.out).mono ?_; rintro e w5 ⟨rfl, hG5⟩; clear HS1) | (go_at_call 35; refine (HS2.out _ hG5).mono ?_; rintro e w6 ⟨rfl, hG6⟩) | (go_at_call 15; refine (HWK.out _).mono ?_; rintro e w7 ⟨rfl, hG7⟩))
  have gz := (((g04.t g4).t hG5).t hG6).t hG7
  first | exact ⟨rfl, gz⟩ | (go_ret; exact ⟨rfl, gz⟩)
end Go.Proofs.YtnkmcoljijmgpaaGreat

