import Derived.Below
import Derived.BigQuiet
import Derived.ChangeOld
import Derived.Deep.AppendLies
import Derived.Deep.Draws
import Derived.Deep.QuietTactic
import Derived.Deep.RegionHeld
import Derived.Deep.Slices
import Derived.Ground.Names2Prog
import Derived.Ground.SlsfProg
import Derived.Ground.SlsoProg
import Derived.IntWalk
import Derived.Laws.AppendOwn
import Derived.Laws.AppendOwnNone
import Derived.Laws.Bits128
import Derived.Laws.OwnMore
import Derived.Laws.Rows
import Derived.Laws.StructEq
import Derived.Lib.Hide
import Derived.Lib.SlKeysI
import Derived.Lib.SliceRun
import Derived.Lib.SmallJoins
import Derived.LoopIn
import Derived.LoopNIn
import Derived.Maps.OwnIn
import Derived.Maps.RangeWalk
import Derived.OpenShut
import Derived.OrdersHeld
import Derived.OrdersIn
import Derived.Outline
import Derived.OwnWalkIn
import Derived.ProofKit
import Derived.RangeFuncBound
import Derived.RangeFuncCalls
import Derived.RangeFuncLeaves
import Derived.RangeFuncNested
import Derived.Shelf.Abstract
import Derived.Shelf.GgSortFunc.InsertionK
import Derived.Shelf.RegionOpen
import Derived.Shelf.SlSortCmp.NoneTotal
import Derived.Shelf.SlSortCmp.WholeK
import Derived.Shelf.SlSorted.Search
import Derived.Shelf.Slices.Cells
import Derived.Shelf.Slices.CompactI
import Derived.Shelf.Slices.In.SortNone
import Derived.Shelf.Slices.SearchI
import Derived.Shelf.Small.Bits
import Derived.Shelf.Sort.Plain
import Derived.Shelf.Strconv.Itoa0
import Derived.Sort.Grow
import Derived.Sort.MapsRangeIn
import Derived.TacticsIn
import Derived.TacticsInMore
import Derived.Test.YtnkmcoljijmgpaaGreatProg
import Derived.WalkKit
import Derived.WalkSpells
import Derived.Test.YtnkmcoljijmgpaaGreatS6
set_option linter.unusedSimpArgs false
set_option linter.unusedVariables false
namespace Go.Proofs.YtnkmcoljijmgpaaGreat
open Go.RowKit Go.Shelf Go.Sort Go.Maps
attribute [local go_sem] Oper.semAt_some
set_option maxRecDepth 100000 in
set_option maxHeartbeats 4000000 in
theorem res31 (tmps : Array Value) (w : World) (g : Nat) (n : Int) {REL : Array Value} (hR : Is4 REL) (h : tmps.getD 4 undef = .pointer (some ⟨g, 0, none⟩)) (h7 : tmps.getD 5 undef = .int .i64 n) (hB : Blk w g 33 REL) :
    (results Tryz.f31 tmps).run Tryz.prog w = .ok (.tuple #[.agg REL, .int .i64 n]) w := by
  obtain ⟨x0, x1, x2, x3, rfl⟩ := hR
  have c0 := hB.cell 0
  have c1 := hB.cell 1
  have c2 := hB.cell 2
  have c3 := hB.cell 3
  clear hB
  have hr : Tryz.f31.results = #[.cell 4 33, .tmp 5] := rfl
  have h' : tmps[4]?.getD undef = .pointer (some ⟨g, 0, none⟩) := by simpa using h
  have h7' : tmps[5]?.getD undef = .int .i64 n := by simpa using h7
  simp only [results, hr]
  go_simp
theorem joinL31 {M C : Nat → Option Addr → Nat → World → Prop} {P : Prop} (h : ∀ g a c W, C g a c W → M g a c W) (k : (∀ g a c W, C g a c W → M g a c W) → P) : P := k h
theorem wonS_bd {f : Fu} (h : WonFacts f []) : ∀ k, k ≤ f.rs.length → 0 ≤ sumT ((prizesL f).map Pz.won) k ∧ sumT ((prizesL f).map Pz.won) k ≤ 1200000 * k
  | 0, _ => by simp [sumT]
  | k + 1, hk => by
    have ih := wonS_bd h k (by omega)
    have h1 := (prizesL_bd h k (by omega)).1
    rw [sumT_succ Pz.won _ (by rw [prizesL_len]; omega), show ((k + 1 : Nat) : Int) = (k : Int) + 1 by omega]
    omega
set_option maxRecDepth 100000 in
set_option maxHeartbeats 8000000 in
theorem rPot_any (r : Ra) (p : Int) (w : World) (h : r.At w) : Calls Tryz.prog 31 #[.agg r.v, .int .i64 p] w (PotPost r p w) := by
  have hrv : r.v = #[.slice r.ra r.racers.length r.rc, .slice r.pa r.pools.length r.pc, .slice r.ta r.protests.length r.tc] := rfl
  have HCK := Lib.hid (fun (W : World) (hW : G w W) => refc_any r p W (h.keep hW))
  have HE : Hid (qE r p [] ≠ 0 → ∀ W', G w W' → PotPost r p w (.returned (.tuple #[.agg #[.int .i64 0, .int .i64 0, .int .i64 0, .int .i64 0], .int .i64 (qE r p [])])) W') := fun a W' b => ⟨b, .inl ⟨a, rfl⟩⟩
  have HS : Hid (qE r p [] = 0 → ∀ W', G w W' → PotPost r p w (.returned (.tuple #[.agg #[.int .i64 (totI (fuOf r p none 0)), .int .i64 (kepI (fuOf r p none 0)), .int .i64 (lefI (fuOf r p none 0)), .int .i64 (resI (fuOf r p none 0) [])], .int .i64 0])) W') := fun a W' b => ⟨b, .inr ⟨a, rfl⟩⟩
  have HPT : Hid (qE r p [] = 0 → ∀ W, G w W → Calls Tryz.prog 64 #[.agg r.v, .int .i64 p] W fun e w' => e = .returned (.agg #[.int .i64 (totI (fuOf r p none 0)), .int .i64 (kepI (fuOf r p none 0)), .int .i64 (lefI (fuOf r p none 0)), .int .i64 0]) ∧ G W w') := fun hq W hW => by
    obtain ⟨hr, n, rfl, hn⟩ := q_in hq
    exact pot64_any r n W (h.keep hW) hr hn
  have HPZ : Hid (qE r p [] = 0 → ∀ W, G w W → Calls Tryz.prog 65 #[.agg r.v, .int .i64 p] W fun e w' => ∃ a c, e = .returned (.slice a (prizesL (fuOf r p none 0)).length c) ∧ w'.ownsRow W.heap.size 40 3 (.slice a (prizesL (fuOf r p none 0)).length c) (prizesL (fuOf r p none 0)).length (cv Pz.v (prizesL (fuOf r p none 0))) ∧ G W w') := fun hq W hW => by
    obtain ⟨hr, n, rfl, hn⟩ := q_in hq
    refine (prizes65_any r n W (h.keep hW) hr hn).mono ?_
    rintro e w' ⟨v, rfl, ho, hG⟩
    obtain ⟨a, c, rfl⟩ := own_slice ho
    exact ⟨a, c, rfl, ho, hG⟩
  have HFA : Hid (qE r p [] = 0 → WonFacts (fuOf r p none 0) [] ∧ FuB (fuOf r p none 0) ∧ Uniq (fuOf r p none 0).rs) := fun hq => by
    obtain ⟨hr, n, rfl, hn⟩ := q_in hq
    exact ⟨fu_facts hr hn none 0 [], fu_bounds hr (inB_pool hn) none 0, runners_uniq hr n⟩
  generalize PotPost r p w = PP at *
  clear h
  rw [hrv] at HCK HPT HPZ ⊢
  clear hrv
  obtain ⟨W1, hW1⟩ : ∃ W1, W1 = (w.alloc (.cells #[.slice r.ra r.racers.length r.rc, .slice r.pa r.pools.length r.pc, .slice r.ta r.protests.length r.tc] 26)).alloc (.cells #[.int .i64 0, .int .i64 0, .int .i64 0, .int .i64 0] 33) := ⟨_, rfl⟩
  have g1 : G w W1 := by rw [hW1]; exact ((G.rf _).a _).a _
  have b0 : Blk W1 w.heap.size 26 #[.slice r.ra r.racers.length r.rc, .slice r.pa r.pools.length r.pc, .slice r.ta r.protests.length r.tc] := by rw [hW1]; exact (Blk.new _ _ _).alloc _
  have b1 : Blk W1 (w.heap.size + 1) 33 #[.int .i64 0, .int .i64 0, .int .i64 0, .int .i64 0] := by rw [hW1]; exact Blk.new1 _ _ _ _
  have hs1 : W1.heap.size = w.heap.size + 1 + 1 := by rw [hW1, World.size_alloc, World.size_alloc]
  have m0 := b0.cell 0
  have m1 := b0.cell 1
  have m2 := b0.cell 2
  have l0 := b0.lt
  generalize hQE : qE r p [] = QE at *
  clear hQE
  go_enter Tryz.func31, Tryz.ntmps31
  go_upto_region 1 with fail
  change Code.wp _ _ _ _ ((w.alloc (.cells #[.slice r.ra r.racers.length r.rc, .slice r.pa r.pools.length r.pc, .slice r.ta r.protests.length r.tc] 26)).alloc (.cells #[.int .i64 0, .int .i64 0, .int .i64 0, .int .i64 0] 33))
  rw [← hW1]
  clear hW1
  by_cases hq : QE = 0
  rotate_left
  · have e0 : (QE == 0) = false := by simpa using hq
    have e1 : (QE != 0) = true := by simpa using hq
    have HE2 := Lib.hid (HE.out hq)
    clear HPT HPZ HFA HS HE
    go_upto_region 3 with (go_at_call 63; refine (HCK.out _ g1).mono ?_; rintro e w2 ⟨rfl, hG2⟩)
    have b2 := b1.keep hG2
    have g2 := g1.t hG2
    clear m0 m1 m2 l0 b1 b0 HCK
    have c0 := b2.cell 0
    have c1 := b2.cell 1
    have c2 := b2.cell 2
    have c3 := b2.cell 3
    have z0 := b2.frozen 0
    have z1 := b2.frozen 1
    have z2 := b2.frozen 2
    have z3 := b2.frozen 3
    have lz := b2.lt
    go_wp2_with fail
    have bE := (((b2.set_ 0 (.int .i64 0)).set_ 1 (.int .i64 0)).set_ 2 (.int .i64 0)).set_ 3 (.int .i64 0)
    simp only [List.setIfInBounds_toArray, List.set_cons_zero, List.set_cons_succ] at bE
    refine bodyPost_ret (res31 _ _ (w.heap.size + 1) QE (REL := #[.int .i64 0, .int .i64 0, .int .i64 0, .int .i64 0]) ⟨_, _, _, _, rfl⟩ rfl rfl bE) rfl ?_
    exact HE2.out _ ((((g2.s (p := ⟨w.heap.size + 1, 0, none⟩) (Nat.le_succ _) _).s (p := ⟨w.heap.size + 1, 1, none⟩) (Nat.le_succ _) _).s (p := ⟨w.heap.size + 1, 2, none⟩) (Nat.le_succ _) _).s (p := ⟨w.heap.size + 1, 3, none⟩) (Nat.le_succ _) _)
  have HP2 := Lib.hid (HPT.out hq)
  have HZ2 := Lib.hid (HPZ.out hq)
  have HS2 := Lib.hid (HS.out hq)
  obtain ⟨hf, hB, hu⟩ := HFA.out hq
  have hlb := left_bd hB
  have hrl := hB.many
  have hfin := cent_won hf hu
  have HW := Lib.hid (wonS_bd hf)
  have hpl := prizesL_len (fuOf r p none 0)
  have HTA := Lib.hid (sumT_all Pz.won (prizesL (fuOf r p none 0)))
  rw [hfin] at HTA
  unfold resI at HS2
  rw [← HTA.out] at HS2
  rw [← hpl] at hrl HW
  clear HPT HPZ HFA HS HE hf hB hu hfin hpl HTA
  obtain ⟨T, hT⟩ : ∃ T, T = totI (fuOf r p none 0) := ⟨_, rfl⟩
  obtain ⟨C, hC⟩ : ∃ C, C = kepI (fuOf r p none 0) := ⟨_, rfl⟩
  obtain ⟨L, hL⟩ : ∃ L, L = lefI (fuOf r p none 0) := ⟨_, rfl⟩
  obtain ⟨ZL, hZL⟩ : ∃ ZL, ZL = prizesL (fuOf r p none 0) := ⟨_, rfl⟩
  rw [← hT, ← hC, ← hL] at HP2 HS2
  rw [← hL] at hlb
  rw [← hZL] at HZ2 HS2 hrl HW
  clear hT hC hL hZL
  subst hq
  go_upto_region 4 with (go_at_call 63; refine (HCK.out _ g1).mono ?_; rintro e w2 ⟨rfl, hG2⟩)
  have g2 := g1.t hG2
  have B0 := b0.keep hG2
  have B1 := b1.keep hG2
  clear m0 m1 m2 l0 b0 b1 HCK
  have hs2 : w.heap.size + 1 < w2.heap.size := B1.lt
  clear hs1 hG2 g1
  refine wp_region_Y (S := fun W' => G w2 W') 8 9 rfl (by kernel_rfl) (G.rf _).d (fun hS => ?_)
  have gd : G w2 w2.drew := (G.rf _).d
  generalize w2.drew = WD at *
  refine wpAnyY_take (i := 0) (v := ?_) rfl (by kernel_rfl) (by kernel_rfl) (by kernel_rfl) (by kernel_rfl) (fun _ _ _ h => h) (Or.inl ⟨by kernel_rfl, ?_⟩) hS ?_
  rotate_left
  · intro w' hSw; have s0 := (B0.keep hSw).cell 0; have s1 := (B0.keep hSw).cell 1; have s2 := (B0.keep hSw).cell 2; have s3 := (B0.keep hSw).lt; go_simp; with_reducible rfl
  try simp only [Act.put, List.getElem_toArray, List.getElem_cons_zero, List.getElem_cons_succ, List.setIfInBounds_toArray, List.set_cons_zero, List.set_cons_succ]
  refine wpAnyY_take (i := 1) (v := ?_) rfl (by kernel_rfl) (by kernel_rfl) (by kernel_rfl) (by kernel_rfl) (fun _ _ _ h => h) (Or.inl ⟨by kernel_rfl, ?_⟩) hS ?_
  rotate_left
  · intro w' hSw; go_simp; with_reducible rfl
  try simp only [Act.put, List.getElem_toArray, List.getElem_cons_zero, List.getElem_cons_succ, List.setIfInBounds_toArray, List.set_cons_zero, List.set_cons_succ]
  refine wpAnyY_take (i := 3) (v := ?_) rfl (by kernel_rfl) (by kernel_rfl) (by kernel_rfl) (by kernel_rfl) (fun _ _ _ h => h) (Or.inl ⟨by kernel_rfl, ?_⟩) hS ?_
  rotate_left
  · intro w' hSw; have s0 := (B0.keep hSw).cell 0; have s1 := (B0.keep hSw).cell 1; have s2 := (B0.keep hSw).cell 2; have s3 := (B0.keep hSw).lt; go_simp; with_reducible rfl
  try simp only [Act.put, List.getElem_toArray, List.getElem_cons_zero, List.getElem_cons_succ, List.setIfInBounds_toArray, List.set_cons_zero, List.set_cons_succ]
  refine wpAnyY_take (i := 4) (v := ?_) rfl (by kernel_rfl) (by kernel_rfl) (by kernel_rfl) (by kernel_rfl) (fun _ _ _ h => h) (Or.inl ⟨by kernel_rfl, ?_⟩) hS ?_
  rotate_left
  · intro w' hSw; go_simp; with_reducible rfl
  try simp only [Act.put, List.getElem_toArray, List.getElem_cons_zero, List.getElem_cons_succ, List.setIfInBounds_toArray, List.set_cons_zero, List.set_cons_succ]
  apply joinL31 (C := fun GX sa sc W => w2.heap.size ≤ GX ∧ Blk W GX 33 #[.int .i64 0, .int .i64 0, .int .i64 0, .int .i64 0] ∧ G w2 W ∧ W.ownsRow w2.heap.size 40 3 (.slice sa ZL.length sc) ZL.length (cv Pz.v ZL))
  rotate_left
  · intro HJ
    refine wpAnyY_twoSW (i := 2) (j := 6) (by kernel_rfl) rfl rfl (by kernel_rfl) (by kernel_rfl) (fun K2 hK2 => ?_) (fun K6 hK6 => ?_)
    · go_simp
      refine (HP2.out _ (g2.t gd)).mono ?_
      rintro e w3 ⟨rfl, hG3⟩
      replace gd := gd.t hG3
      refine hK2.out _ _ gd (fun hS => ?_)
      clear hK2
      try simp only [Act.put, List.getElem_toArray, List.getElem_cons_zero, List.getElem_cons_succ, List.setIfInBounds_toArray, List.set_cons_zero, List.set_cons_succ]
      refine wpAnyY_twoSW (i := 5) (j := 6) (by kernel_rfl) rfl rfl (by kernel_rfl) (by kernel_rfl) (fun K5 hK5 => ?_) (fun K6 hK6 => ?_)
      · go_simp
        refine (HZ2.out _ (g2.t gd)).mono ?_
        rintro e w4 ⟨sa, sc, rfl, hso, hG4⟩
        have hso2 := own_weaken hso gd.size
        replace gd := gd.t hG4
        refine hK5.out _ _ gd (fun hS => ?_)
        clear hK5
        try simp only [Act.put, List.getElem_toArray, List.getElem_cons_zero, List.getElem_cons_succ, List.setIfInBounds_toArray, List.set_cons_zero, List.set_cons_succ]
        refine wpAnyY_oneSW (i := 6) (by kernel_rfl) rfl (by kernel_rfl) (fun K6 hK6 => ?_)
        go_simp
        have gE := gd.a (.cells #[.int .i64 0, .int .i64 0, .int .i64 0, .int .i64 0] 33)
        refine hK6.out _ _ gE (fun hS => ?_)
        clear hK6
        try simp only [Act.put, List.getElem_toArray, List.getElem_cons_zero, List.getElem_cons_succ, List.setIfInBounds_toArray, List.set_cons_zero, List.set_cons_succ]
        have bX := Blk.new w4 33 #[.int .i64 0, .int .i64 0, .int .i64 0, .int .i64 0]
        have hso3 := own_G hso2 ((G.rf w4).a (.cells #[.int .i64 0, .int .i64 0, .int .i64 0, .int .i64 0] 33))
        have lX := gd.size
        obtain ⟨GX, hGX⟩ : ∃ GX, GX = w4.heap.size := ⟨_, rfl⟩
        rw [← hGX] at bX lX ⊢
        clear hGX
        generalize w4.alloc (.cells #[.int .i64 0, .int .i64 0, .int .i64 0, .int .i64 0] 33) = WE at *
        exact HJ GX sa sc WE ⟨lX, bX, gE, hso3⟩
      · go_simp
        have gE := gd.a (.cells #[.int .i64 0, .int .i64 0, .int .i64 0, .int .i64 0] 33)
        refine hK6.out _ _ gE (fun hS => ?_)
        clear hK6
        try simp only [Act.put, List.getElem_toArray, List.getElem_cons_zero, List.getElem_cons_succ, List.setIfInBounds_toArray, List.set_cons_zero, List.set_cons_succ]
        have bX := Blk.new w3 33 #[.int .i64 0, .int .i64 0, .int .i64 0, .int .i64 0]
        have lX := gd.size
        obtain ⟨GX, hGX⟩ : ∃ GX, GX = w3.heap.size := ⟨_, rfl⟩
        rw [← hGX] at bX lX ⊢
        clear hGX
        generalize w3.alloc (.cells #[.int .i64 0, .int .i64 0, .int .i64 0, .int .i64 0] 33) = WE at *
        refine wpAnyY_oneSW (i := 5) (by kernel_rfl) rfl (by kernel_rfl) (fun K5 hK5 => ?_)
        go_simp
        refine (HZ2.out _ (g2.t gE)).mono ?_
        rintro e w4 ⟨sa, sc, rfl, hso, hG4⟩
        have hso2 := own_weaken hso gE.size
        replace gE := gE.t hG4
        refine hK5.out _ _ gE (fun hS => ?_)
        clear hK5
        try simp only [Act.put, List.getElem_toArray, List.getElem_cons_zero, List.getElem_cons_succ, List.setIfInBounds_toArray, List.set_cons_zero, List.set_cons_succ]
        exact HJ GX sa sc w4 ⟨lX, bX.keep hG4, gE, hso2⟩
    · go_simp
      have gE := gd.a (.cells #[.int .i64 0, .int .i64 0, .int .i64 0, .int .i64 0] 33)
      refine hK6.out _ _ gE (fun hS => ?_)
      clear hK6
      try simp only [Act.put, List.getElem_toArray, List.getElem_cons_zero, List.getElem_cons_succ, List.setIfInBounds_toArray, List.set_cons_zero, List.set_cons_succ]
      have bX := Blk.new WD 33 #[.int .i64 0, .int .i64 0, .int .i64 0, .int .i64 0]
      have lX := gd.size
      obtain ⟨GX, hGX⟩ : ∃ GX, GX = WD.heap.size := ⟨_, rfl⟩
      rw [← hGX] at bX lX ⊢
      clear hGX
      generalize WD.alloc (.cells #[.int .i64 0, .int .i64 0, .int .i64 0, .int .i64 0] 33) = WE at *
      refine wpAnyY_oneSW (i := 2) (by kernel_rfl) rfl (by kernel_rfl) (fun K2 hK2 => ?_)
      go_simp
      refine (HP2.out _ (g2.t gE)).mono ?_
      rintro e w3 ⟨rfl, hG3⟩
      replace gE := gE.t hG3
      refine hK2.out _ _ gE (fun hS => ?_)
      clear hK2
      try simp only [Act.put, List.getElem_toArray, List.getElem_cons_zero, List.getElem_cons_succ, List.setIfInBounds_toArray, List.set_cons_zero, List.set_cons_succ]
      refine wpAnyY_oneSW (i := 5) (by kernel_rfl) rfl (by kernel_rfl) (fun K5 hK5 => ?_)
      go_simp
      refine (HZ2.out _ (g2.t gE)).mono ?_
      rintro e w4 ⟨sa, sc, rfl, hso, hG4⟩
      have hso2 := own_weaken hso gE.size
      replace gE := gE.t hG4
      refine hK5.out _ _ gE (fun hS => ?_)
      clear hK5
      try simp only [Act.put, List.getElem_toArray, List.getElem_cons_zero, List.getElem_cons_succ, List.setIfInBounds_toArray, List.set_cons_zero, List.set_cons_succ]
      exact HJ GX sa sc w4 ⟨lX, (bX.keep hG3).keep hG4, gE, hso2⟩
  intro GX sa sc W2 hJ
  obtain ⟨hGX, bX, gz, hso⟩ := hJ
  clear hS gd HP2 HZ2
  refine wpAnyY_oneSW (i := 7) (by kernel_rfl) rfl (by kernel_rfl) (fun K7 hK7 => ?_)
  refine wp_store33 GX (.tmp 7) (.tmp 19) (OLD := #[.int .i64 0, .int .i64 0, .int .i64 0, .int .i64 0]) (NEW := #[.int .i64 T, .int .i64 C, .int .i64 L, .int .i64 0]) ⟨_, _, _, _, rfl⟩ ⟨_, _, _, _, rfl⟩ rfl rfl rfl bX (fun WX bP hFX hGGX => ?_)
  refine hK7.out _ _ (hGGX w2 hGX gz) (fun hS => ?_)
  clear hK7
  try simp only [Act.put, List.getElem_toArray, List.getElem_cons_zero, List.getElem_cons_succ, List.setIfInBounds_toArray, List.set_cons_zero, List.set_cons_succ]
  have hsoX := own_away hso hFX (own_ne hso bX (by decide))
  have g2X := hS
  clear hS hFX hGGX bX gz hso
  refine wpAnyY_oneW (i := 8) (by kernel_rfl) rfl (by kernel_rfl) (by kernel_rfl) (fun K8 hK8 => ?_)
  go_simp
  refine hK8.out _ _ ?_
  clear hK8
  try simp only [Act.put, List.getElem_toArray, List.getElem_cons_zero, List.getElem_cons_succ, List.setIfInBounds_toArray, List.set_cons_zero, List.set_cons_succ]
  refine wpAnyY_done (by kernel_rfl) ?_ _
  have p2 := bP.cell 2
  have p3 := bP.cell 3
  have y3 := bP.frozen 3
  have lp := bP.lt
  go_upto_region 6 with fail
  clear p2 p3 y3 lp
  have bQ := bP.set_ 3 (.int .i64 L)
  simp only [List.setIfInBounds_toArray, List.set_cons_zero, List.set_cons_succ] at bQ
  have HBQ := Lib.hid bQ
  have HF0 : Hid (Fr (fun i => i = GX) WX (WX.setCell ⟨GX, 3, none⟩ (.int .i64 L))) := (Fr.rf (fun i => i = GX) WX).s (p := ⟨GX, 3, none⟩) (.inl rfl) _
  have HSX : Hid (∀ W, Fr (fun i => i = GX) WX W → W.ownsRow w2.heap.size 40 3 (.slice sa ZL.length sc) ZL.length (cv Pz.v ZL)) := fun W hF => own_Fr hsoX hF (fun g hg e => by
    have e2 : g = GX := e
    subst e2
    exact own_ne hsoX bP (by decide) hg.symm)
  generalize WX.setCell ⟨GX, 3, none⟩ (.int .i64 L) = WY at *
  clear bQ hsoX
  go_wp2_with fail
  go_loopw [9] (fun i wr => ∃ (k : Nat) (rest : Int), k ≤ ZL.length ∧ i = .int .i64 k ∧ Hid (rest = L - sumT (ZL.map Pz.won) k) ∧ Hid (Blk wr GX 33 #[.int .i64 T, .int .i64 C, .int .i64 L, .int .i64 rest]) ∧ Hid (Fr (fun i => i = GX) WX wr)) (fun i _ => ZL.length - (intOf i).toNat)
  case atStart => exact ⟨0, L, Nat.zero_le _, rfl, by show _ = _; simp [sumT], HBQ.out, HF0.out⟩
  case round =>
    obtain ⟨k, rest, hk, rfl, HR, HB, HF⟩ := hrel
    obtain ⟨wk, rfl⟩ : ∃ wk, wk = wr := ⟨_, rfl⟩
    by_cases hkl : k < ZL.length
    · have hki : (k : Int) < ZL.length := by omega
      have hso := HSX.out _ HF.out
      obtain ⟨og, ocap, ocur, hov, hob, hol, hot⟩ := own_some hso (by omega)
      injection hov with e1 _ e3
      subst e1 e3
      obtain ⟨c0, c1, c2, _, _, lo, lb, _⟩ := pz_cell hso hkl
      have hsum := sumT_succ Pz.won ZL hkl
      have hb1 := HW.out k (by omega)
      have hb2 := HW.out (k + 1) (by omega)
      have hne : og ≠ GX := fun e => own_ne hso HB.out (by decide) (by rw [← e]; rfl)
      obtain ⟨wn, hwn⟩ : ∃ wn, wn = (ZL.getD k default).won := ⟨_, rfl⟩
      rw [← hwn] at c1 hsum
      have hre := HR.out
      have hbd : -100000000 ≤ rest - wn ∧ rest - wn ≤ 100000000 := by omega
      have x1 : IntKind.i64.wrap (rest - wn) = rest - wn := IntWalk.i64_in _ (by omega)
      have HR1 : Hid (rest - wn = L - sumT (ZL.map Pz.won) (k + 1)) := by show _ = _; omega
      have b3 := HB.out.cell 3
      have z3 := HB.out.frozen 3
      have lg := HB.out.lt
      clear hob hot c0 c2 lb hwn hre hsum hb1 hb2
      go_upto_region 9 with fail
      refine wp_region_Y (S := fun W' => G wk W') 9 10 rfl (by kernel_rfl) (G.rf _).d (fun hS => ?_)
      have gd : G wk wk.drew := (G.rf _).d
      generalize wk.drew = WD at *
      refine wpAnyY_take (i := 0) (v := ?_) rfl (by kernel_rfl) (by kernel_rfl) (by kernel_rfl) (by kernel_rfl) (fun _ _ _ h => h) (Or.inl ⟨by kernel_rfl, ?_⟩) hS ?_
      rotate_left
      · intro w' hSw; go_simp; with_reducible rfl
      try simp only [Act.put, List.getElem_toArray, List.getElem_cons_zero, List.getElem_cons_succ, List.setIfInBounds_toArray, List.set_cons_zero, List.set_cons_succ]
      refine wpAnyY_take (i := 1) (v := ?_) rfl (by kernel_rfl) (by kernel_rfl) (by kernel_rfl) (by kernel_rfl) (fun _ _ _ h => h) (Or.inl ⟨by kernel_rfl, ?_⟩) hS ?_
      rotate_left
      · intro w' hSw; have s0 := ((bcellB hSw).1 GX _ lg).trans b3; have s1 : GX < w'.heap.size := Nat.lt_of_lt_of_le lg hSw.size; go_simp; with_reducible rfl
      try simp only [Act.put, List.getElem_toArray, List.getElem_cons_zero, List.getElem_cons_succ, List.setIfInBounds_toArray, List.set_cons_zero, List.set_cons_succ]
      refine wpAnyY_take (i := 2) (v := ?_) rfl (by kernel_rfl) (by kernel_rfl) (by kernel_rfl) (by kernel_rfl) (fun _ _ _ h => h) (Or.inl ⟨by kernel_rfl, ?_⟩) hS ?_
      rotate_left
      · intro w' hSw; go_simp; with_reducible rfl
      try simp only [Act.put, List.getElem_toArray, List.getElem_cons_zero, List.getElem_cons_succ, List.setIfInBounds_toArray, List.set_cons_zero, List.set_cons_succ]
      refine wpAnyY_take (i := 3) (v := ?_) rfl (by kernel_rfl) (by kernel_rfl) (by kernel_rfl) (by kernel_rfl) (fun _ _ _ h => h) (Or.inl ⟨by kernel_rfl, ?_⟩) hS ?_
      rotate_left
      · intro w' hSw; go_simp; with_reducible rfl
      try simp only [Act.put, List.getElem_toArray, List.getElem_cons_zero, List.getElem_cons_succ, List.setIfInBounds_toArray, List.set_cons_zero, List.set_cons_succ]
      refine wpAnyY_take (i := 4) (v := ?_) rfl (by kernel_rfl) (by kernel_rfl) (by kernel_rfl) (by kernel_rfl) (fun _ _ _ h => h) (Or.inl ⟨by kernel_rfl, ?_⟩) hS ?_
      rotate_left
      · intro w' hSw; go_simp; with_reducible rfl
      try simp only [Act.put, List.getElem_toArray, List.getElem_cons_zero, List.getElem_cons_succ, List.setIfInBounds_toArray, List.set_cons_zero, List.set_cons_succ]
      refine wpAnyY_take (i := 5) (v := ?_) rfl (by kernel_rfl) (by kernel_rfl) (by kernel_rfl) (by kernel_rfl) (fun _ _ _ h => h) (Or.inl ⟨by kernel_rfl, ?_⟩) hS ?_
      rotate_left
      · intro w' hSw; go_simp; with_reducible rfl
      try simp only [Act.put, List.getElem_toArray, List.getElem_cons_zero, List.getElem_cons_succ, List.setIfInBounds_toArray, List.set_cons_zero, List.set_cons_succ]
      refine wpAnyY_take (i := 6) (v := ?_) rfl (by kernel_rfl) (by kernel_rfl) (by kernel_rfl) (by kernel_rfl) (fun _ _ _ h => h) (Or.inl ⟨by kernel_rfl, ?_⟩) hS ?_
      rotate_left
      · intro w' hSw; have s0 := ((bcellB hSw).1 og _ lo).trans c1; have s1 : og < w'.heap.size := Nat.lt_of_lt_of_le lo hSw.size; go_simp; with_reducible rfl
      try simp only [Act.put, List.getElem_toArray, List.getElem_cons_zero, List.getElem_cons_succ, List.setIfInBounds_toArray, List.set_cons_zero, List.set_cons_succ]
      refine wpAnyY_take (i := 7) (v := ?_) rfl (by kernel_rfl) (by kernel_rfl) (by kernel_rfl) (by kernel_rfl) (fun _ _ _ h => h) (Or.inl ⟨by kernel_rfl, ?_⟩) hS ?_
      rotate_left
      · intro w' hSw; go_simp; with_reducible rfl
      try simp only [Act.put, List.getElem_toArray, List.getElem_cons_zero, List.getElem_cons_succ, List.setIfInBounds_toArray, List.set_cons_zero, List.set_cons_succ]
      refine wpAnyY_take (i := 8) (v := ?_) rfl (by kernel_rfl) (by kernel_rfl) (by kernel_rfl) (by kernel_rfl) (fun _ _ _ h => h) (Or.inl ⟨by kernel_rfl, ?_⟩) hS ?_
      rotate_left
      · intro w' hSw; go_simp; with_reducible rfl
      try simp only [Act.put, List.getElem_toArray, List.getElem_cons_zero, List.getElem_cons_succ, List.setIfInBounds_toArray, List.set_cons_zero, List.set_cons_succ]
      have z3d := ((bcellB gd).2 GX _ lg).trans z3
      have b3d := ((bcellB gd).1 GX _ lg).trans b3
      have lgd : GX < WD.heap.size := Nat.lt_of_lt_of_le lg gd.size
      have HBD := Lib.hid (HB.out.keep gd)
      have HFD := Lib.hid (HF.out.g gd)
      clear z3 b3 lg hS HB
      refine wpAnyY_oneW (i := 9) (by kernel_rfl) rfl (by kernel_rfl) (by kernel_rfl) (fun K9 hK9 => ?_)
      go_simp
      refine hK9.out _ _ ?_
      clear hK9
      try simp only [Act.put, List.getElem_toArray, List.getElem_cons_zero, List.getElem_cons_succ, List.setIfInBounds_toArray, List.set_cons_zero, List.set_cons_succ]
      refine wpAnyY_done (by kernel_rfl) ?_ _
      have bN := HBD.out.set_ 3 (.int .i64 (rest - wn))
      simp only [List.setIfInBounds_toArray, List.set_cons_zero, List.set_cons_succ] at bN
      have HBN := Lib.hid bN
      have HFN := Lib.hid (HFD.out.s (p := ⟨GX, 3, none⟩) (.inl rfl) (.int .i64 (rest - wn)))
      clear bN z3d b3d
      go_wp2_with fail
      go_roundw
      case rel => exact ⟨k + 1, rest - wn, by omega, by go_num, HR1.out, HBN.out, HFN.out⟩
      case measure => simp [intOf] <;> omega
    · obtain rfl : k = ZL.length := by omega
      have hki : ¬ ((ZL.length : Nat) : Int) < ZL.length := by omega
      have gf : G w2 wk := ((G.fr (R := fun _ => False) g2X).t2 HF.out (fun i hi e => by have e2 : i = GX := e; omega)).toG (fun _ _ h => h)
      have b3 := B1.keep gf
      have gg := g2.t gf
      have c0 := b3.cell 0
      have c1 := b3.cell 1
      have c2 := b3.cell 2
      have c3 := b3.cell 3
      have z0 := b3.frozen 0
      have z1 := b3.frozen 1
      have z2 := b3.frozen 2
      have z3 := b3.frozen 3
      have lz := b3.lt
      have x0 := HB.out.cell 0
      have x1 := HB.out.cell 1
      have x2 := HB.out.cell 2
      have x3 := HB.out.cell 3
      have lx := HB.out.lt
      have HSF := Lib.hid (HS2.out)
      rw [← HR.out] at HSF
      clear HR HB HF HSX HF0 HBQ bP gf HS2
      go_wp2_with fail
      have bE := (((b3.set_ 0 (.int .i64 T)).set_ 1 (.int .i64 C)).set_ 2 (.int .i64 L)).set_ 3 (.int .i64 rest)
      simp only [List.setIfInBounds_toArray, List.set_cons_zero, List.set_cons_succ] at bE
      refine bodyPost_ret (res31 _ _ (w.heap.size + 1) 0 (REL := #[.int .i64 T, .int .i64 C, .int .i64 L, .int .i64 rest]) ⟨_, _, _, _, rfl⟩ rfl rfl bE) rfl ?_
      exact HSF.out _ ((((gg.s (p := ⟨w.heap.size + 1, 0, none⟩) (Nat.le_succ _) _).s (p := ⟨w.heap.size + 1, 1, none⟩) (Nat.le_succ _) _).s (p := ⟨w.heap.size + 1, 2, none⟩) (Nat.le_succ _) _).s (p := ⟨w.heap.size + 1, 3, none⟩) (Nat.le_succ _) _)
end Go.Proofs.YtnkmcoljijmgpaaGreat

set_option linter.unusedSimpArgs false
set_option linter.unusedVariables false
namespace Go.Proofs.YtnkmcoljijmgpaaGreat
open Go.RowKit Go.Shelf Go.Sort Go.Maps
attribute [local go_sem] Oper.semAt_some
theorem copy_at {W : World} {B : Nat} {r o : Ra} (hAT : r.At W) (hc : CpIs W B r o) : o.At W := by
  have hlo : o.racers.length = r.racers.length := by
    have e := congrArg List.length hc.er
    simpa using e
  refine cp_at3 (o := o) (B1 := B) (B2 := B) hAT hc.rr (fun y hy => ?_) hlo hc.pr hc.pt hc.tr hc.ep (by rw [hc.et]; exact hAT.nt)
  obtain ⟨a', c', e, hI⟩ := own_ints (hc.rp y hy)
  injection e with e3 _ _
  refine ⟨by rw [e3]; exact hI, ?_⟩
  obtain ⟨z, hz, e4⟩ := mem_P hc.er hy
  obtain ⟨i, hi, rfl⟩ := List.mem_iff_getElem.1 hz
  have h5 := hAT.nq i hi
  rw [List.getD_eq_getElem?_getD, List.getElem?_eq_getElem hi] at h5
  have e5 : (r.racers[i]).pools = y.pools := congrArg (fun q => q.2.2.2.2) e4
  rw [← e5]
  exact h5
theorem race_copy {r o : Ra} (her : o.racers.map rcP = r.racers.map rcP) (hps : o.pools.map poP = r.pools.map poP) (hpr : o.protests = r.protests) : raceB o = raceB r := by
  cases hr : raceB r
  · cases ho : raceB o
    · rfl
    · rw [(req_copy ho her.symm hps.symm hpr.symm).2] at hr
      cases hr
  · exact (req_copy hr her hps hpr).2
def PLX (r : Ra) (p : Int) : List Int := if qE r p [] = 0 then placesL (fuOf r p none 0) else []
def GSX (r : Ra) (p : Int) : List (List Int) := if qE r p [] = 0 then orderL (fuOf r p none 0) [] else []
def PZX (r : Ra) (p : Int) : List Pz := if qE r p [] = 0 then prizesL (fuOf r p none 0) else []
def POX (r : Ra) (p : Int) : Int × Int × Int × Int := if qE r p [] = 0 then (totI (fuOf r p none 0), kepI (fuOf r p none 0), lefI (fuOf r p none 0), resI (fuOf r p none 0) []) else (0, 0, 0, 0)
theorem placesP {f g : Fu} (hp : poP f.po = poP g.po) (hr : f.rs.map rcK = g.rs.map rcK) : placesL f = placesL g := by
  have hl : f.rs.length = g.rs.length := by
    have e := congrArg List.length hr
    simpa using e
  obtain ⟨⟨a0, a1, a2, a3, a4, a5, a6, a7⟩, b1, b2, b3, b4, b5, b6⟩ := f
  obtain ⟨⟨c0, c1, c2, c3, c4, c5, c6, c7⟩, d1, d2, d3, d4, d5, d6⟩ := g
  unfold poP at hp
  simp only [Prod.mk.injEq] at hp
  dsimp only at hl
  obtain ⟨rfl, rfl, rfl, rfl, rfl, rfl⟩ := hp
  unfold placesL nPl lefI kepI totI
  dsimp only
  rw [hl]
theorem copy_X {r o : Ra} (her : o.racers.map rcP = r.racers.map rcP) (hps : o.pools.map poP = r.pools.map poP) (hpr : o.protests = r.protests) (p : Int) :
    qE o p [] = qE r p [] ∧ PLX o p = PLX r p ∧ GSX o p = GSX r p ∧ PZX o p = PZX r p ∧ POX o p = POX r p := by
  cases hr : raceB r
  · have ho := race_copy her hps hpr
    rw [hr] at ho
    have e1 : qE r p [] = 80 := by unfold qE; rw [if_neg (by rw [hr]; decide)]
    have e2 : qE o p [] = 80 := by unfold qE; rw [if_neg (by rw [ho]; decide)]
    have n1 : ¬ (80 : Int) = 0 := by decide
    refine ⟨by rw [e1, e2], ?_, ?_, ?_, ?_⟩
    · unfold PLX; rw [e1, e2, if_neg n1, if_neg n1]
    · unfold GSX; rw [e1, e2, if_neg n1, if_neg n1]
    · unfold PZX; rw [e1, e2, if_neg n1, if_neg n1]
    · unfold POX; rw [e1, e2, if_neg n1, if_neg n1]
  · obtain ⟨hq, ho⟩ := req_copy hr her hps hpr
    have e1 := qE_E hq hr ho p []
    have hp := hq.po p
    have hk := K_of_Q (hq.rs p)
    refine ⟨e1, ?_, ?_, ?_, ?_⟩
    · unfold PLX; rw [e1, placesP (f := fuOf o p none 0) (g := fuOf r p none 0) hp hk]
    · unfold GSX; rw [e1, orderP (f := fuOf o p none 0) (g := fuOf r p none 0) hp hk]
    · unfold PZX; rw [e1, prizesE hq p]
    · unfold POX
      have e := potP (f := fuOf o p none 0) (g := fuOf r p none 0) hp hk
      unfold potV at e
      simp only [Array.mk.injEq, List.cons.injEq, Value.int.injEq, true_and, and_true] at e
      obtain ⟨h1, h2, h3, h4⟩ := e
      rw [e1, h1, h2, h3, h4]
theorem plX_of {r : Ra} {p : Int} {w w' : World} {e : Ending} (h : PlPost r p w e w') : G w w' ∧ ∃ a c, e = .returned (.tuple #[.slice a (PLX r p).length c, .int .i64 (qE r p [])]) ∧ IntsAt w' a (PLX r p) := by
  obtain ⟨hG, ⟨h1, rfl⟩ | ⟨h1, v, rfl, ho⟩⟩ := h
  · refine ⟨hG, none, 0, ?_, ?_⟩ <;> (unfold PLX; rw [if_neg h1])
    · rfl
    · exact .inl rfl
  · obtain ⟨a, c, rfl, hI⟩ := own_ints ho
    refine ⟨hG, a, c, ?_, ?_⟩ <;> (unfold PLX; rw [if_pos h1])
    · rw [h1]
    · exact hI
theorem gsX_of1 {r : Ra} {p : Int} {w w' : World} {e : Ending} (h : OrPost8 r p w e w') : G w w' ∧ ∃ a c, e = .returned (.tuple #[.slice a (GSX r p).length c, .int .i64 (qE r p [])]) ∧ GrpAt w' a (GSX r p) := by
  obtain ⟨hG, ⟨h1, rfl⟩ | ⟨h1, v, cs, Bl, rfl, ho⟩⟩ := h
  · refine ⟨hG, none, 0, ?_, ?_⟩ <;> (unfold GSX; rw [if_neg h1])
    · rfl
    · exact fun j hj => by simp at hj
  · obtain ⟨a, c, rfl, hI⟩ := grp_read ho
    refine ⟨hG, a, c, ?_, ?_⟩ <;> (unfold GSX; rw [if_pos h1])
    · rw [h1]
    · exact hI
theorem gsX_of2 {r : Ra} {p : Int} {w w' : World} {e : Ending} (h : OrPostR r p w e w') : G w w' ∧ ∃ a c, e = .returned (.tuple #[.slice a (GSX r p).length c, .int .i64 (qE r p [])]) ∧ GrpAt w' a (GSX r p) := by
  obtain ⟨hG, ⟨h1, rfl⟩ | ⟨h1, v, cs, rfl, ho⟩⟩ := h
  · refine ⟨hG, none, 0, ?_, ?_⟩ <;> (unfold GSX; rw [if_neg h1])
    · rfl
    · exact fun j hj => by simp at hj
  · obtain ⟨a, c, rfl, hI⟩ := rows_read ho
    refine ⟨hG, a, c, ?_, ?_⟩ <;> (unfold GSX; rw [if_pos h1])
    · rw [h1]
    · exact hI
theorem poX_of {r : Ra} {p : Int} {w w' : World} {e : Ending} (h : PotPost r p w e w') : G w w' ∧ e = .returned (.tuple #[.agg #[.int .i64 (POX r p).1, .int .i64 (POX r p).2.1, .int .i64 (POX r p).2.2.1, .int .i64 (POX r p).2.2.2], .int .i64 (qE r p [])]) := by
  obtain ⟨hG, ⟨h1, rfl⟩ | ⟨h1, rfl⟩⟩ := h
  · refine ⟨hG, ?_⟩
    unfold POX; rw [if_neg h1]
  · refine ⟨hG, ?_⟩
    unfold POX; rw [if_pos h1, h1]
    rfl
theorem X_len {r : Ra} (hn : r.racers.length ≤ 1000) (p : Int) : (PLX r p).length ≤ 1000 ∧ (GSX r p).length ≤ 1000 ∧ (∀ j, ((GSX r p).getD j []).length ≤ 1000) ∧ (PZX r p).length ≤ 1000 := by
  by_cases h1 : qE r p [] = 0
  · obtain ⟨hr, n, rfl, hn⟩ := q_in h1
    have hB := fu_bounds hr (inB_pool hn) none 0
    have ok := (fu_facts hr hn none 0 []).ok
    unfold PLX GSX PZX
    rw [if_pos h1, if_pos h1, if_pos h1]
    refine ⟨ok.pl, by have := ok.gl; omega, fun j => ?_, by rw [prizesL_len]; have := hB.many; omega⟩
    by_cases hj : j < (orderL (fuOf r n none 0) []).length
    · have := (grp_bd ok hj).2; omega
    · simp [List.getD_eq_getElem?_getD, List.getElem?_eq_none (Nat.le_of_not_lt hj)]
  · unfold PLX GSX PZX
    rw [if_neg h1, if_neg h1, if_neg h1]
    simp
set_option maxRecDepth 100000 in
set_option maxHeartbeats 4000000 in
theorem same35_any (l : List Int) (a b : Option Addr) (c d : Nat) (w : World) (h1 : IntsAt w a l) (h2 : IntsAt w b l) (hl : l.length ≤ 1000) : Calls Tryz.prog 35 #[.slice a l.length c, .slice b l.length d] w fun e w' => e = .returned (.bool true) ∧ G w w' := by
  go_enter Tryz.func35, Tryz.ntmps35
  go_wp2_with fail
  go_loopw [5] (fun i wr => ∃ k : Nat, k ≤ l.length ∧ i = .int .i64 k ∧ G w wr) (fun i _ => l.length - (intOf i).toNat)
  case atStart => exact ⟨0, Nat.zero_le _, rfl, G.rf _⟩
  case round =>
    obtain ⟨k, hk, rfl, hG⟩ := hrel
    obtain ⟨wo, rfl⟩ : ∃ wo, wo = wr := ⟨_, rfl⟩
    by_cases hlt : k < l.length
    · have hki : (k : Int) < l.length := by omega
      rcases h1.below hG with h | ⟨g1, o1, rfl, hg1, hc1⟩
      · rw [h] at hlt; simp at hlt
      rcases h2.below hG with h | ⟨g2, o2, rfl, hg2, hc2⟩
      · rw [h] at hlt; simp at hlt
      have e1 := hc1 k hlt
      have e2 := hc2 k hlt
      obtain ⟨y, hy⟩ : ∃ y, y = l.getD k 0 := ⟨_, rfl⟩
      rw [← hy] at e1 e2
      clear hy hc1 hc2
      go_upto_region 6 with fail
      refine wp_region_Y (S := fun W' => G wo W') 8 9 rfl (by kernel_rfl) (G.rf _).d (fun hS => ?_)
      have ga := (G.rf wo).d
      refine wpAnyY_take (i := 0) (v := ?_) rfl (by kernel_rfl) (by kernel_rfl) (by kernel_rfl) (by kernel_rfl) (fun _ _ _ h => h) (Or.inl ⟨by kernel_rfl, ?_⟩) hS ?_
      rotate_left
      · intro w' hSw; go_simp; with_reducible rfl
      try simp only [Act.put, List.getElem_toArray, List.getElem_cons_zero, List.getElem_cons_succ, List.setIfInBounds_toArray, List.set_cons_zero, List.set_cons_succ]
      refine wpAnyY_take (i := 1) (v := ?_) rfl (by kernel_rfl) (by kernel_rfl) (by kernel_rfl) (by kernel_rfl) (fun _ _ _ h => h) (Or.inl ⟨by kernel_rfl, ?_⟩) hS ?_
      rotate_left
      · intro w' hSw; go_simp; with_reducible rfl
      try simp only [Act.put, List.getElem_toArray, List.getElem_cons_zero, List.getElem_cons_succ, List.setIfInBounds_toArray, List.set_cons_zero, List.set_cons_succ]
      refine wpAnyY_take (i := 2) (v := ?_) rfl (by kernel_rfl) (by kernel_rfl) (by kernel_rfl) (by kernel_rfl) (fun _ _ _ h => h) (Or.inl ⟨by kernel_rfl, ?_⟩) hS ?_
      rotate_left
      · intro w' hSw; go_simp; with_reducible rfl
      try simp only [Act.put, List.getElem_toArray, List.getElem_cons_zero, List.getElem_cons_succ, List.setIfInBounds_toArray, List.set_cons_zero, List.set_cons_succ]
      refine wpAnyY_take (i := 3) (v := ?_) rfl (by kernel_rfl) (by kernel_rfl) (by kernel_rfl) (by kernel_rfl) (fun _ _ _ h => h) (Or.inl ⟨by kernel_rfl, ?_⟩) hS ?_
      rotate_left
      · intro w' hSw; have s0 := ((bcellB hSw).1 g1 _ hg1).trans e1; have s1 : g1 < w'.heap.size := Nat.lt_of_lt_of_le hg1 hSw.size; go_simp; with_reducible rfl
      try simp only [Act.put, List.getElem_toArray, List.getElem_cons_zero, List.getElem_cons_succ, List.setIfInBounds_toArray, List.set_cons_zero, List.set_cons_succ]
      refine wpAnyY_take (i := 4) (v := ?_) rfl (by kernel_rfl) (by kernel_rfl) (by kernel_rfl) (by kernel_rfl) (fun _ _ _ h => h) (Or.inl ⟨by kernel_rfl, ?_⟩) hS ?_
      rotate_left
      · intro w' hSw; go_simp; with_reducible rfl
      try simp only [Act.put, List.getElem_toArray, List.getElem_cons_zero, List.getElem_cons_succ, List.setIfInBounds_toArray, List.set_cons_zero, List.set_cons_succ]
      refine wpAnyY_take (i := 5) (v := ?_) rfl (by kernel_rfl) (by kernel_rfl) (by kernel_rfl) (by kernel_rfl) (fun _ _ _ h => h) (Or.inl ⟨by kernel_rfl, ?_⟩) hS ?_
      rotate_left
      · intro w' hSw; go_simp; with_reducible rfl
      try simp only [Act.put, List.getElem_toArray, List.getElem_cons_zero, List.getElem_cons_succ, List.setIfInBounds_toArray, List.set_cons_zero, List.set_cons_succ]
      refine wpAnyY_take (i := 6) (v := ?_) rfl (by kernel_rfl) (by kernel_rfl) (by kernel_rfl) (by kernel_rfl) (fun _ _ _ h => h) (Or.inl ⟨by kernel_rfl, ?_⟩) hS ?_
      rotate_left
      · intro w' hSw; go_simp; with_reducible rfl
      try simp only [Act.put, List.getElem_toArray, List.getElem_cons_zero, List.getElem_cons_succ, List.setIfInBounds_toArray, List.set_cons_zero, List.set_cons_succ]
      refine wpAnyY_take (i := 7) (v := ?_) rfl (by kernel_rfl) (by kernel_rfl) (by kernel_rfl) (by kernel_rfl) (fun _ _ _ h => h) (Or.inl ⟨by kernel_rfl, ?_⟩) hS ?_
      rotate_left
      · intro w' hSw; have s0 := ((bcellB hSw).1 g2 _ hg2).trans e2; have s1 : g2 < w'.heap.size := Nat.lt_of_lt_of_le hg2 hSw.size; go_simp; with_reducible rfl
      try simp only [Act.put, List.getElem_toArray, List.getElem_cons_zero, List.getElem_cons_succ, List.setIfInBounds_toArray, List.set_cons_zero, List.set_cons_succ]
      refine wpAnyY_oneW (i := 8) (by kernel_rfl) rfl (by kernel_rfl) (by kernel_rfl) (fun K8 hK8 => ?_)
      go_simp
      refine hK8.out _ _ ?_
      clear hK8
      try simp only [Act.put, List.getElem_toArray, List.getElem_cons_zero, List.getElem_cons_succ, List.setIfInBounds_toArray, List.set_cons_zero, List.set_cons_succ]
      refine wpAnyY_done (by kernel_rfl) ?_ _
      clear hS
      go_wp2_with fail
      go_roundw
      case rel => exact ⟨k + 1, by omega, by go_num, hG.t ga⟩
      case measure => simp [intOf] <;> omega
    · obtain rfl : k = l.length := by omega
      have hki : ¬ ((l.length : Nat) : Int) < l.length := by omega
      go_wp2_with fail
      go_ret
      exact ⟨rfl, hG⟩
set_option maxRecDepth 100000 in
set_option maxHeartbeats 4000000 in
theorem same36_any (l : List (List Int)) (a b : Option Addr) (c d : Nat) (w : World) (h1 : GrpAt w a l) (h2 : GrpAt w b l) (hl : l.length ≤ 1000) (hr : ∀ j, (l.getD j []).length ≤ 1000) : Calls Tryz.prog 36 #[.slice a l.length c, .slice b l.length d] w fun e w' => e = .returned (.bool true) ∧ G w w' := by
  have HR := Lib.hid hr
  clear hr
  go_enter Tryz.func36, Tryz.ntmps36
  go_wp2_with fail
  go_loopw [5] (fun i wr => ∃ k : Nat, k ≤ l.length ∧ i = .int .i64 k ∧ G w wr) (fun i _ => l.length - (intOf i).toNat)
  case atStart => exact ⟨0, Nat.zero_le _, rfl, G.rf _⟩
  case round =>
    obtain ⟨k, hk, rfl, hG⟩ := hrel
    obtain ⟨wo, rfl⟩ : ∃ wo, wo = wr := ⟨_, rfl⟩
    by_cases hlt : k < l.length
    · have hki : (k : Int) < l.length := by omega
      obtain ⟨g1, a1, c1, rfl, hg1, e1, i1⟩ := h1.keep hG k hlt
      obtain ⟨g2, a2, c2, rfl, hg2, e2, i2⟩ := h2.keep hG k hlt
      have HSM := Lib.hid (fun (W : World) (hW : G wo W) => same35_any (l.getD k []) a1 a2 c1 c2 W (i1.below hW) (i2.below hW) (HR.out k))
      obtain ⟨y, hy⟩ : ∃ y, y = l.getD k [] := ⟨_, rfl⟩
      rw [← hy] at e1 e2 HSM
      clear hy i1 i2
      go_upto_region 6 with fail
      refine wp_region_Y (S := fun W' => G wo W') 9 10 rfl (by kernel_rfl) (G.rf _).d (fun hS => ?_)
      have ga := (G.rf wo).d
      generalize wo.drew = WD at *
      refine wpAnyY_take (i := 0) (v := ?_) rfl (by kernel_rfl) (by kernel_rfl) (by kernel_rfl) (by kernel_rfl) (fun _ _ _ h => h) (Or.inl ⟨by kernel_rfl, ?_⟩) hS ?_
      rotate_left
      · intro w' hSw; go_simp; with_reducible rfl
      try simp only [Act.put, List.getElem_toArray, List.getElem_cons_zero, List.getElem_cons_succ, List.setIfInBounds_toArray, List.set_cons_zero, List.set_cons_succ]
      refine wpAnyY_take (i := 1) (v := ?_) rfl (by kernel_rfl) (by kernel_rfl) (by kernel_rfl) (by kernel_rfl) (fun _ _ _ h => h) (Or.inl ⟨by kernel_rfl, ?_⟩) hS ?_
      rotate_left
      · intro w' hSw; go_simp; with_reducible rfl
      try simp only [Act.put, List.getElem_toArray, List.getElem_cons_zero, List.getElem_cons_succ, List.setIfInBounds_toArray, List.set_cons_zero, List.set_cons_succ]
      refine wpAnyY_take (i := 2) (v := ?_) rfl (by kernel_rfl) (by kernel_rfl) (by kernel_rfl) (by kernel_rfl) (fun _ _ _ h => h) (Or.inl ⟨by kernel_rfl, ?_⟩) hS ?_
      rotate_left
      · intro w' hSw; go_simp; with_reducible rfl
      try simp only [Act.put, List.getElem_toArray, List.getElem_cons_zero, List.getElem_cons_succ, List.setIfInBounds_toArray, List.set_cons_zero, List.set_cons_succ]
      refine wpAnyY_take (i := 3) (v := ?_) rfl (by kernel_rfl) (by kernel_rfl) (by kernel_rfl) (by kernel_rfl) (fun _ _ _ h => h) (Or.inl ⟨by kernel_rfl, ?_⟩) hS ?_
      rotate_left
      · intro w' hSw; have s0 := ((bcellB hSw).1 g1 _ hg1).trans e1; have s1 : g1 < w'.heap.size := Nat.lt_of_lt_of_le hg1 hSw.size; go_simp; with_reducible rfl
      try simp only [Act.put, List.getElem_toArray, List.getElem_cons_zero, List.getElem_cons_succ, List.setIfInBounds_toArray, List.set_cons_zero, List.set_cons_succ]
      refine wpAnyY_take (i := 4) (v := ?_) rfl (by kernel_rfl) (by kernel_rfl) (by kernel_rfl) (by kernel_rfl) (fun _ _ _ h => h) (Or.inl ⟨by kernel_rfl, ?_⟩) hS ?_
      rotate_left
      · intro w' hSw; go_simp; with_reducible rfl
      try simp only [Act.put, List.getElem_toArray, List.getElem_cons_zero, List.getElem_cons_succ, List.setIfInBounds_toArray, List.set_cons_zero, List.set_cons_succ]
      refine wpAnyY_take (i := 5) (v := ?_) rfl (by kernel_rfl) (by kernel_rfl) (by kernel_rfl) (by kernel_rfl) (fun _ _ _ h => h) (Or.inl ⟨by kernel_rfl, ?_⟩) hS ?_
      rotate_left
      · intro w' hSw; go_simp; with_reducible rfl
      try simp only [Act.put, List.getElem_toArray, List.getElem_cons_zero, List.getElem_cons_succ, List.setIfInBounds_toArray, List.set_cons_zero, List.set_cons_succ]
      refine wpAnyY_take (i := 6) (v := ?_) rfl (by kernel_rfl) (by kernel_rfl) (by kernel_rfl) (by kernel_rfl) (fun _ _ _ h => h) (Or.inl ⟨by kernel_rfl, ?_⟩) hS ?_
      rotate_left
      · intro w' hSw; go_simp; with_reducible rfl
      try simp only [Act.put, List.getElem_toArray, List.getElem_cons_zero, List.getElem_cons_succ, List.setIfInBounds_toArray, List.set_cons_zero, List.set_cons_succ]
      refine wpAnyY_take (i := 7) (v := ?_) rfl (by kernel_rfl) (by kernel_rfl) (by kernel_rfl) (by kernel_rfl) (fun _ _ _ h => h) (Or.inl ⟨by kernel_rfl, ?_⟩) hS ?_
      rotate_left
      · intro w' hSw; have s0 := ((bcellB hSw).1 g2 _ hg2).trans e2; have s1 : g2 < w'.heap.size := Nat.lt_of_lt_of_le hg2 hSw.size; go_simp; with_reducible rfl
      try simp only [Act.put, List.getElem_toArray, List.getElem_cons_zero, List.getElem_cons_succ, List.setIfInBounds_toArray, List.set_cons_zero, List.set_cons_succ]
      refine wpAnyY_oneSW (i := 8) (by kernel_rfl) rfl (by kernel_rfl) (fun K8 hK8 => ?_)
      go_simp
      refine (HSM.out _ ga).mono ?_
      rintro e w3 ⟨rfl, hG3⟩
      replace ga := ga.t hG3
      refine hK8.out _ _ ga (fun hS => ?_)
      clear hK8
      try simp only [Act.put, List.getElem_toArray, List.getElem_cons_zero, List.getElem_cons_succ, List.setIfInBounds_toArray, List.set_cons_zero, List.set_cons_succ]
      refine wpAnyY_oneW (i := 9) (by kernel_rfl) rfl (by kernel_rfl) (by kernel_rfl) (fun K9 hK9 => ?_)
      go_simp
      refine hK9.out _ _ ?_
      clear hK9
      try simp only [Act.put, List.getElem_toArray, List.getElem_cons_zero, List.getElem_cons_succ, List.setIfInBounds_toArray, List.set_cons_zero, List.set_cons_succ]
      refine wpAnyY_done (by kernel_rfl) ?_ _
      clear hS
      go_wp2_with fail
      go_roundw
      case rel => exact ⟨k + 1, by omega, by go_num, hG.t ga⟩
      case measure => simp [intOf] <;> omega
    · obtain rfl : k = l.length := by omega
      have hki : ¬ ((l.length : Nat) : Int) < l.length := by omega
      go_wp2_with fail
      go_ret
      exact ⟨rfl, hG⟩
theorem joinL37 {M C : Nat → Nat → World → Prop} {P : Prop} (h : ∀ g a W, C g a W → M g a W) (k : (∀ g a W, C g a W → M g a W) → P) : P := k h
theorem map_getP {α β : Type} [Inhabited α] {f : α → β} {l l' : List α} (h : l.map f = l'.map f) {i : Nat} (hi : i < l'.length) : f (l.getD i default) = f (l'.getD i default) := by
  have hl : l.length = l'.length := by
    have e := congrArg List.length h
    simpa using e
  have e : (l.map f)[i]? = (l'.map f)[i]? := by rw [h]
  rw [List.getElem?_map, List.getElem?_map, List.getElem?_eq_getElem (by omega), List.getElem?_eq_getElem hi] at e
  rw [List.getD_eq_getElem?_getD, List.getD_eq_getElem?_getD, List.getElem?_eq_getElem (by omega), List.getElem?_eq_getElem hi]
  simpa using e
set_option maxRecDepth 100000 in
set_option maxHeartbeats 8000000 in
theorem same37_any (o r : Ra) (w : World) (ho : o.At w) (h : r.At w) (her : o.racers.map rcP = r.racers.map rcP) (hps : o.pools.map poP = r.pools.map poP) (hpr : o.protests = r.protests) : Calls Tryz.prog 37 #[.agg o.v, .agg r.v] w fun e w' => e = .returned (.bool true) ∧ G w w' := by
  have hlo : o.racers.length = r.racers.length := by
    have e := congrArg List.length her
    simpa using e
  have hlp : o.pools.length = r.pools.length := by
    have e := congrArg List.length hps
    simpa using e
  have hlt : o.protests.length = r.protests.length := by rw [hpr]
  have hov : o.v = #[.slice o.ra r.racers.length o.rc, .slice o.pa r.pools.length o.pc, .slice o.ta r.protests.length o.tc] := by
    show #[Value.slice o.ra o.racers.length o.rc, .slice o.pa o.pools.length o.pc, .slice o.ta o.protests.length o.tc] = _
    rw [hlo, hlp, hlt]
  have hrv : r.v = #[.slice r.ra r.racers.length r.rc, .slice r.pa r.pools.length r.pc, .slice r.ta r.protests.length r.tc] := rfl
  have HPT := Lib.hid (fun (W : World) (hW : G w W) => same35_any r.protests o.ta r.ta o.tc r.tc W (by have := (ho.keep hW).ts; rw [hpr] at this; exact this) (h.keep hW).ts h.nt)
  have HRA : Hid (∀ i, i < r.racers.length → ∃ (zbird zowner zrank zday : Int) (zpools : List Int) (apa bpa : Option Addr) (apc bpc ga oa gb ob : Nat), o.ra = some ⟨ga, oa, none⟩ ∧ r.ra = some ⟨gb, ob, none⟩ ∧ ga < w.heap.size ∧ gb < w.heap.size ∧ (∀ t, t < 5 → w.cell? ⟨ga, oa + i * 5 + t, none⟩ = (#[.int .i64 zbird, .int .i64 zowner, .int .i64 zrank, .int .i64 zday, .slice apa zpools.length apc] : Array Value)[t]?) ∧ (∀ t, t < 5 → w.cell? ⟨gb, ob + i * 5 + t, none⟩ = (#[.int .i64 zbird, .int .i64 zowner, .int .i64 zrank, .int .i64 zday, .slice bpa zpools.length bpc] : Array Value)[t]?) ∧ IntsAt w apa zpools ∧ IntsAt w bpa zpools ∧ zpools.length ≤ 1000) := fun i hi => by
    have e := map_getP her hi
    rcases ho.rs.row with hx | ⟨ga, oa, e1, l1, c1⟩
    · omega
    rcases h.rs.row with hx | ⟨gb, ob, e2, l2, c2⟩
    · omega
    have c1' := c1 i (by omega)
    have c2' := c2 i hi
    have i1 := ho.rs.pools i (by omega)
    have i2 := h.rs.pools i hi
    have i3 := h.nq i hi
    generalize o.racers.getD i default = x at *
    generalize r.racers.getD i default = y at *
    obtain ⟨x1, x2, x3, x4, x5, x6, x7⟩ := x
    obtain ⟨y1, y2, y3, y4, y5, y6, y7⟩ := y
    unfold rcP at e
    simp only [Prod.mk.injEq] at e
    obtain ⟨rfl, rfl, rfl, rfl, rfl⟩ := e
    exact ⟨x1, x2, x3, x4, x7, x5, y5, x6, y6, ga, oa, gb, ob, e1, e2, l1, l2, c1', c2', i1, i2, i3⟩
  have HPA : Hid (∀ i, i < r.pools.length → ∃ (T : List Int) (ata bta : Option Addr) (atc btc ga oa gb ob : Nat), o.pa = some ⟨ga, oa, none⟩ ∧ r.pa = some ⟨gb, ob, none⟩ ∧ ga < w.heap.size ∧ gb < w.heap.size ∧ w.cell? ⟨ga, oa + i * 6 + 3, none⟩ = some (.slice ata T.length atc) ∧ w.cell? ⟨gb, ob + i * 6 + 3, none⟩ = some (.slice bta T.length btc) ∧ IntsAt w ata T ∧ IntsAt w bta T ∧ T.length ≤ 1000) := fun i hi => by
    have e := map_getP hps hi
    rcases ho.ps.row with hx | ⟨ga, oa, e1, l1, c1⟩
    · omega
    rcases h.ps.row with hx | ⟨gb, ob, e2, l2, c2⟩
    · omega
    have c1' := c1 i (by omega) 3 (by omega)
    have c2' := c2 i hi 3 (by omega)
    have i1 := ho.ps.tables i (by omega)
    have i2 := h.ps.tables i hi
    have i3 := h.nb i hi
    generalize o.pools.getD i default = x at *
    generalize r.pools.getD i default = y at *
    obtain ⟨x0, x1, x2, x3, x4, x5, x6, x7⟩ := x
    obtain ⟨y0, y1, y2, y3, y4, y5, y6, y7⟩ := y
    unfold poP at e
    simp only [Prod.mk.injEq] at e
    obtain ⟨rfl, rfl, rfl, rfl, rfl, rfl⟩ := e
    exact ⟨x5, x3, y3, x4, y4, ga, oa, gb, ob, e1, e2, l1, l2, c1', c2', i1, i2, i3⟩
  have hn1 := h.nr
  have hn2 := h.np
  have hn3 := h.nt
  rw [hov, hrv]
  obtain ⟨n, hn⟩ : ∃ n, n = r.racers.length := ⟨_, rfl⟩
  obtain ⟨m, hm⟩ : ∃ m, m = r.pools.length := ⟨_, rfl⟩
  obtain ⟨q, hq⟩ : ∃ q, q = r.protests.length := ⟨_, rfl⟩
  rw [← hn] at HRA hn1 ⊢
  rw [← hm] at HPA hn2 ⊢
  rw [← hq] at HPT hn3 ⊢
  clear hn hm hq hov hrv ho h her hps hpr hlo hlp hlt
  obtain ⟨W1, hW1⟩ : ∃ W1, W1 = (w.alloc (.cells #[.slice o.ra n o.rc, .slice o.pa m o.pc, .slice o.ta q o.tc] 26)).alloc (.cells #[.slice r.ra n r.rc, .slice r.pa m r.pc, .slice r.ta q r.tc] 26) := ⟨_, rfl⟩
  have g1 : G w W1 := by rw [hW1]; exact ((G.rf _).a _).a _
  have B0 : Blk W1 w.heap.size 26 #[.slice o.ra n o.rc, .slice o.pa m o.pc, .slice o.ta q o.tc] := by rw [hW1]; exact (Blk.new _ _ _).alloc _
  have B1 : Blk W1 (w.heap.size + 1) 26 #[.slice r.ra n r.rc, .slice r.pa m r.pc, .slice r.ta q r.tc] := by rw [hW1]; exact Blk.new1 _ _ _ _
  have HB0 := Lib.hid B0
  have HB1 := Lib.hid B1
  have m0 := B0.cell 0
  have m1 := B0.cell 1
  have m2 := B0.cell 2
  have l0 := B0.lt
  have k0 := B1.cell 0
  have k1 := B1.cell 1
  have k2 := B1.cell 2
  have l1 := B1.lt
  go_enter Tryz.func37, Tryz.ntmps37
  go_upto_region 1 with fail
  change Code.wp _ _ _ _ ((w.alloc (.cells #[.slice o.ra n o.rc, .slice o.pa m o.pc, .slice o.ta q o.tc] 26)).alloc (.cells #[.slice r.ra n r.rc, .slice r.pa m r.pc, .slice r.ta q r.tc] 26))
  rw [← hW1]
  clear hW1 B0 B1
  go_wp2_with (go_at_call 35; refine (HPT.out _ g1).mono ?_; rintro e w2 ⟨rfl, hG2⟩)
  clear m0 m1 m2 l0 k0 k1 k2 l1 HPT
  go_loopw [5] (fun i wr => ∃ k : Nat, k ≤ n ∧ i = .int .i64 k ∧ Hid (G W1 wr)) (fun i _ => n - (intOf i).toNat)
  case atStart => exact ⟨0, Nat.zero_le _, rfl, hG2⟩
  case round =>
    obtain ⟨k, hk, rfl, HG⟩ := hrel
    clear hG2
    obtain ⟨wo, rfl⟩ : ∃ wo, wo = wr := ⟨_, rfl⟩
    by_cases hlt : k < n
    · have hki : (k : Int) < n := by omega
      obtain ⟨zbird, zowner, zrank, zday, zpools, apa, bpa, apc, bpc, ga, oa, gb, ob, e1, e2, l1, l2, c1, c2, i1, i2, i3⟩ := HRA.out k hlt
      have HE1 := Lib.hid e1
      have HE2 := Lib.hid e2
      have gw := g1.t HG.out
      have HSM := Lib.hid (fun (W : World) (hW : G w W) => same35_any zpools apa bpa apc bpc W (i1.below hW) (i2.below hW) i3)
      have a0 : w.cell? ⟨ga, oa + k * 5, none⟩ = some (.int .i64 zbird) := c1 0 (by omega)
      have a1 : w.cell? ⟨ga, oa + k * 5 + 1, none⟩ = some (.int .i64 zowner) := c1 1 (by omega)
      have a2 : w.cell? ⟨ga, oa + k * 5 + 2, none⟩ = some (.int .i64 zrank) := c1 2 (by omega)
      have a3 : w.cell? ⟨ga, oa + k * 5 + 3, none⟩ = some (.int .i64 zday) := c1 3 (by omega)
      have a4 : w.cell? ⟨ga, oa + k * 5 + 4, none⟩ = some (.slice apa zpools.length apc) := c1 4 (by omega)
      have b0 : w.cell? ⟨gb, ob + k * 5, none⟩ = some (.int .i64 zbird) := c2 0 (by omega)
      have b1 : w.cell? ⟨gb, ob + k * 5 + 1, none⟩ = some (.int .i64 zowner) := c2 1 (by omega)
      have b2 : w.cell? ⟨gb, ob + k * 5 + 2, none⟩ = some (.int .i64 zrank) := c2 2 (by omega)
      have b3 : w.cell? ⟨gb, ob + k * 5 + 3, none⟩ = some (.int .i64 zday) := c2 3 (by omega)
      have b4 : w.cell? ⟨gb, ob + k * 5 + 4, none⟩ = some (.slice bpa zpools.length bpc) := c2 4 (by omega)
      clear e1 e2 c1 c2 i1 i2
      have m0 := (HB0.out.keep HG.out).cell 0
      have l0 := (HB0.out.keep HG.out).lt
      go_upto_region 6 with fail
      clear m0 l0
      refine wp_region_Y (S := fun W' => G wo W') 13 14 rfl (by kernel_rfl) (G.rf _).d (fun hS => ?_)
      have gd := (G.rf wo).d
      generalize wo.drew = WD at *
      refine wpAnyY_take (i := 0) (v := ?_) rfl (by kernel_rfl) (by kernel_rfl) (by kernel_rfl) (by kernel_rfl) (fun _ _ _ h => h) (Or.inl ⟨by kernel_rfl, ?_⟩) hS ?_
      rotate_left
      · intro w' hSw; go_simp; with_reducible rfl
      try simp only [Act.put, List.getElem_toArray, List.getElem_cons_zero, List.getElem_cons_succ, List.setIfInBounds_toArray, List.set_cons_zero, List.set_cons_succ]
      refine wpAnyY_take (i := 1) (v := ?_) rfl (by kernel_rfl) (by kernel_rfl) (by kernel_rfl) (by kernel_rfl) (fun _ _ _ h => h) (Or.inl ⟨by kernel_rfl, ?_⟩) hS ?_
      rotate_left
      · intro w' hSw; have s0 := (HB0.out.keep (HG.out.t hSw)).cell 0; rw [HE1.out] at s0; have s1 := (HB0.out.keep (HG.out.t hSw)).lt; go_simp; with_reducible rfl
      try simp only [Act.put, List.getElem_toArray, List.getElem_cons_zero, List.getElem_cons_succ, List.setIfInBounds_toArray, List.set_cons_zero, List.set_cons_succ]
      refine wpAnyY_take (i := 2) (v := ?_) rfl (by kernel_rfl) (by kernel_rfl) (by kernel_rfl) (by kernel_rfl) (fun _ _ _ h => h) (Or.inl ⟨by kernel_rfl, ?_⟩) hS ?_
      rotate_left
      · intro w' hSw; go_simp; with_reducible rfl
      try simp only [Act.put, List.getElem_toArray, List.getElem_cons_zero, List.getElem_cons_succ, List.setIfInBounds_toArray, List.set_cons_zero, List.set_cons_succ]
      refine wpAnyY_take (i := 3) (v := ?_) rfl (by kernel_rfl) (by kernel_rfl) (by kernel_rfl) (by kernel_rfl) (fun _ _ _ h => h) (Or.inl ⟨by kernel_rfl, ?_⟩) hS ?_
      rotate_left
      · intro w' hSw; go_simp; with_reducible rfl
      try simp only [Act.put, List.getElem_toArray, List.getElem_cons_zero, List.getElem_cons_succ, List.setIfInBounds_toArray, List.set_cons_zero, List.set_cons_succ]
      refine wpAnyY_take (i := 4) (v := ?_) rfl (by kernel_rfl) (by kernel_rfl) (by kernel_rfl) (by kernel_rfl) (fun _ _ _ h => h) (Or.inl ⟨by kernel_rfl, ?_⟩) hS ?_
      rotate_left
      · intro w' hSw; have e := fun q => (bcellB (gw.t hSw)).1 ga q l1; have s0 := (e _).trans a0; have s1 := (e _).trans a1; have s2 := (e _).trans a2; have s3 := (e _).trans a3; have s4 := (e _).trans a4; have s9 : ga < w'.heap.size := Nat.lt_of_lt_of_le l1 (gw.t hSw).size; clear e; go_simp; with_reducible rfl
      try simp only [Act.put, List.getElem_toArray, List.getElem_cons_zero, List.getElem_cons_succ, List.setIfInBounds_toArray, List.set_cons_zero, List.set_cons_succ]
      refine wpAnyY_take (i := 5) (v := ?_) rfl (by kernel_rfl) (by kernel_rfl) (by kernel_rfl) (by kernel_rfl) (fun _ _ _ h => h) (Or.inl ⟨by kernel_rfl, ?_⟩) hS ?_
      rotate_left
      · intro w' hSw; go_simp; with_reducible rfl
      try simp only [Act.put, List.getElem_toArray, List.getElem_cons_zero, List.getElem_cons_succ, List.setIfInBounds_toArray, List.set_cons_zero, List.set_cons_succ]
      refine wpAnyY_take (i := 6) (v := ?_) rfl (by kernel_rfl) (by kernel_rfl) (by kernel_rfl) (by kernel_rfl) (fun _ _ _ h => h) (Or.inl ⟨by kernel_rfl, ?_⟩) hS ?_
      rotate_left
      · intro w' hSw; have s0 := (HB1.out.keep (HG.out.t hSw)).cell 0; rw [HE2.out] at s0; have s1 := (HB1.out.keep (HG.out.t hSw)).lt; go_simp; with_reducible rfl
      try simp only [Act.put, List.getElem_toArray, List.getElem_cons_zero, List.getElem_cons_succ, List.setIfInBounds_toArray, List.set_cons_zero, List.set_cons_succ]
      refine wpAnyY_take (i := 7) (v := ?_) rfl (by kernel_rfl) (by kernel_rfl) (by kernel_rfl) (by kernel_rfl) (fun _ _ _ h => h) (Or.inl ⟨by kernel_rfl, ?_⟩) hS ?_
      rotate_left
      · intro w' hSw; go_simp; with_reducible rfl
      try simp only [Act.put, List.getElem_toArray, List.getElem_cons_zero, List.getElem_cons_succ, List.setIfInBounds_toArray, List.set_cons_zero, List.set_cons_succ]
      refine wpAnyY_take (i := 8) (v := ?_) rfl (by kernel_rfl) (by kernel_rfl) (by kernel_rfl) (by kernel_rfl) (fun _ _ _ h => h) (Or.inl ⟨by kernel_rfl, ?_⟩) hS ?_
      rotate_left
      · intro w' hSw; go_simp; with_reducible rfl
      try simp only [Act.put, List.getElem_toArray, List.getElem_cons_zero, List.getElem_cons_succ, List.setIfInBounds_toArray, List.set_cons_zero, List.set_cons_succ]
      refine wpAnyY_take (i := 9) (v := ?_) rfl (by kernel_rfl) (by kernel_rfl) (by kernel_rfl) (by kernel_rfl) (fun _ _ _ h => h) (Or.inl ⟨by kernel_rfl, ?_⟩) hS ?_
      rotate_left
      · intro w' hSw; have e := fun q => (bcellB (gw.t hSw)).1 gb q l2; have s0 := (e _).trans b0; have s1 := (e _).trans b1; have s2 := (e _).trans b2; have s3 := (e _).trans b3; have s4 := (e _).trans b4; have s9 : gb < w'.heap.size := Nat.lt_of_lt_of_le l2 (gw.t hSw).size; clear e; go_simp; with_reducible rfl
      try simp only [Act.put, List.getElem_toArray, List.getElem_cons_zero, List.getElem_cons_succ, List.setIfInBounds_toArray, List.set_cons_zero, List.set_cons_succ]
      apply joinL37 (C := fun GX GY W => wo.heap.size ≤ GX ∧ wo.heap.size ≤ GY ∧ GX ≠ GY ∧ Blk W GX 60 #[.int .i64 0, .int .i64 0, .int .i64 0, .int .i64 0, .slice none 0 0] ∧ Blk W GY 60 #[.int .i64 0, .int .i64 0, .int .i64 0, .int .i64 0, .slice none 0 0] ∧ G wo W)
      rotate_left
      · intro HJ
        refine wpAnyY_twoSW (i := 10) (j := 11) (by kernel_rfl) rfl rfl (by kernel_rfl) (by kernel_rfl) (fun K10 hK10 => ?_) (fun K11 hK11 => ?_)
        · go_simp
          have gE := gd.a (.cells #[.int .i64 0, .int .i64 0, .int .i64 0, .int .i64 0, .slice none 0 0] 60)
          refine hK10.out _ _ gE (fun hS => ?_)
          clear hK10
          try simp only [Act.put, List.getElem_toArray, List.getElem_cons_zero, List.getElem_cons_succ, List.setIfInBounds_toArray, List.set_cons_zero, List.set_cons_succ]
          have bX := Blk.new WD 60 #[.int .i64 0, .int .i64 0, .int .i64 0, .int .i64 0, .slice none 0 0]
          have lX := gd.size
          obtain ⟨GX, hGX⟩ : ∃ GX, GX = WD.heap.size := ⟨_, rfl⟩
          rw [← hGX] at bX lX ⊢
          clear hGX
          generalize WD.alloc (.cells #[.int .i64 0, .int .i64 0, .int .i64 0, .int .i64 0, .slice none 0 0] 60) = WE at *
          refine wpAnyY_oneSW (i := 11) (by kernel_rfl) rfl (by kernel_rfl) (fun K11 hK11 => ?_)
          go_simp
          have gF := gE.a (.cells #[.int .i64 0, .int .i64 0, .int .i64 0, .int .i64 0, .slice none 0 0] 60)
          refine hK11.out _ _ gF (fun hS => ?_)
          clear hK11
          try simp only [Act.put, List.getElem_toArray, List.getElem_cons_zero, List.getElem_cons_succ, List.setIfInBounds_toArray, List.set_cons_zero, List.set_cons_succ]
          have bY := Blk.new WE 60 #[.int .i64 0, .int .i64 0, .int .i64 0, .int .i64 0, .slice none 0 0]
          have bX2 := bX.alloc (.cells #[.int .i64 0, .int .i64 0, .int .i64 0, .int .i64 0, .slice none 0 0] 60)
          have lY := gE.size
          have lXY := bX.lt
          obtain ⟨GY, hGY⟩ : ∃ GY, GY = WE.heap.size := ⟨_, rfl⟩
          rw [← hGY] at bY lY lXY ⊢
          clear hGY
          generalize WE.alloc (.cells #[.int .i64 0, .int .i64 0, .int .i64 0, .int .i64 0, .slice none 0 0] 60) = WF at *
          exact HJ GX GY WF ⟨lX, lY, by omega, bX2, bY, gF⟩
        · go_simp
          have gE := gd.a (.cells #[.int .i64 0, .int .i64 0, .int .i64 0, .int .i64 0, .slice none 0 0] 60)
          refine hK11.out _ _ gE (fun hS => ?_)
          clear hK11
          try simp only [Act.put, List.getElem_toArray, List.getElem_cons_zero, List.getElem_cons_succ, List.setIfInBounds_toArray, List.set_cons_zero, List.set_cons_succ]
          have bX := Blk.new WD 60 #[.int .i64 0, .int .i64 0, .int .i64 0, .int .i64 0, .slice none 0 0]
          have lX := gd.size
          obtain ⟨GX, hGX⟩ : ∃ GX, GX = WD.heap.size := ⟨_, rfl⟩
          rw [← hGX] at bX lX ⊢
          clear hGX
          generalize WD.alloc (.cells #[.int .i64 0, .int .i64 0, .int .i64 0, .int .i64 0, .slice none 0 0] 60) = WE at *
          refine wpAnyY_oneSW (i := 10) (by kernel_rfl) rfl (by kernel_rfl) (fun K10 hK10 => ?_)
          go_simp
          have gF := gE.a (.cells #[.int .i64 0, .int .i64 0, .int .i64 0, .int .i64 0, .slice none 0 0] 60)
          refine hK10.out _ _ gF (fun hS => ?_)
          clear hK10
          try simp only [Act.put, List.getElem_toArray, List.getElem_cons_zero, List.getElem_cons_succ, List.setIfInBounds_toArray, List.set_cons_zero, List.set_cons_succ]
          have bY := Blk.new WE 60 #[.int .i64 0, .int .i64 0, .int .i64 0, .int .i64 0, .slice none 0 0]
          have bX2 := bX.alloc (.cells #[.int .i64 0, .int .i64 0, .int .i64 0, .int .i64 0, .slice none 0 0] 60)
          have lY := gE.size
          have lXY := bX.lt
          obtain ⟨GY, hGY⟩ : ∃ GY, GY = WE.heap.size := ⟨_, rfl⟩
          rw [← hGY] at bY lY lXY ⊢
          clear hGY
          generalize WE.alloc (.cells #[.int .i64 0, .int .i64 0, .int .i64 0, .int .i64 0, .slice none 0 0] 60) = WF at *
          exact HJ GY GX WF ⟨lY, lX, by omega, bY, bX2, gF⟩
      intro GX GY Wf hJ
      obtain ⟨hGX, hGY, hXY, bX, bY, gz⟩ := hJ
      clear hS gd
      refine wpAnyY_oneSW (i := 12) (by kernel_rfl) rfl (by kernel_rfl) (fun K12 hK12 => ?_)
      refine wp_store60 GX (.tmp 6) (.tmp 44) (OLD := #[.int .i64 0, .int .i64 0, .int .i64 0, .int .i64 0, .slice none 0 0]) (NEW := #[.int .i64 zbird, .int .i64 zowner, .int .i64 zrank, .int .i64 zday, .slice apa zpools.length apc]) ⟨_, _, _, _, _, _, _, rfl⟩ ⟨_, _, _, _, _, _, _, rfl⟩ rfl rfl rfl bX (fun WX bP hFX hGGX => ?_)
      have bY2 : Blk WX GY 60 #[.int .i64 0, .int .i64 0, .int .i64 0, .int .i64 0, .slice none 0 0] := (hFX GY (Ne.symm hXY)).trans bY
      have gX := hGGX wo hGX gz
      refine hK12.out _ _ gX (fun hS => ?_)
      clear hK12
      try simp only [Act.put, List.getElem_toArray, List.getElem_cons_zero, List.getElem_cons_succ, List.setIfInBounds_toArray, List.set_cons_zero, List.set_cons_succ]
      refine wpAnyY_oneW (i := 13) (by kernel_rfl) rfl (by kernel_rfl) (by kernel_rfl) (fun K13 hK13 => ?_)
      refine wp_store60 GY (.tmp 7) (.tmp 49) (OLD := #[.int .i64 0, .int .i64 0, .int .i64 0, .int .i64 0, .slice none 0 0]) (NEW := #[.int .i64 zbird, .int .i64 zowner, .int .i64 zrank, .int .i64 zday, .slice bpa zpools.length bpc]) ⟨_, _, _, _, _, _, _, rfl⟩ ⟨_, _, _, _, _, _, _, rfl⟩ rfl rfl rfl bY2 (fun WY bQ hFY hGGY => ?_)
      refine hK13.out _ _ ?_
      clear hK13
      try simp only [Act.put, List.getElem_toArray, List.getElem_cons_zero, List.getElem_cons_succ, List.setIfInBounds_toArray, List.set_cons_zero, List.set_cons_succ]
      have bP2 : Blk WY GX 60 #[.int .i64 zbird, .int .i64 zowner, .int .i64 zrank, .int .i64 zday, .slice apa zpools.length apc] := (hFY GX hXY).trans bP
      have gY := hGGY wo hGY gX
      clear hFX hGGX hFY hGGY bX bY bY2 bP gz gX hS
      refine wpAnyY_done (by kernel_rfl) ?_ _
      have p0 := bP2.cell 0
      have p1 := bP2.cell 1
      have p2 := bP2.cell 2
      have p3 := bP2.cell 3
      have p4 := bP2.cell 4
      have lp := bP2.lt
      have q0 := bQ.cell 0
      have q1 := bQ.cell 1
      have q2 := bQ.cell 2
      have q3 := bQ.cell 3
      have q4 := bQ.cell 4
      have lq := bQ.lt
      clear a0 a1 a2 a3 a4 b0 b1 b2 b3 b4 bP2 bQ l1 l2
      go_wp2_with (go_at_call 35; refine (HSM.out _ (gw.t gY)).mono ?_; rintro e w3 ⟨rfl, hG3⟩)
      go_roundw
      case rel => exact ⟨k + 1, by omega, by go_num, HG.out.t (gY.t hG3)⟩
      case measure => simp [intOf] <;> omega
    obtain rfl : k = n := by omega
    have hki : ¬ ((k : Nat) : Int) < k := by omega
    have m0 := (HB0.out.keep HG.out).cell 0
    have l0 := (HB0.out.keep HG.out).lt
    go_wp2_with fail
    clear m0 l0 HRA
    go_loopw [8] (fun i wr => ∃ k : Nat, k ≤ m ∧ i = .int .i64 k ∧ Hid (G W1 wr)) (fun i _ => m - (intOf i).toNat)
    case atStart => exact ⟨0, Nat.zero_le _, rfl, HG.out⟩
    case round =>
      clear HG
      obtain ⟨t, ht, rfl, HG⟩ := hrel
      obtain ⟨wt, rfl⟩ : ∃ wt, wt = wr := ⟨_, rfl⟩
      have m1 := (HB0.out.keep HG.out).cell 1
      have l0 := (HB0.out.keep HG.out).lt
      by_cases htl : t < m
      · have hti : (t : Int) < m := by omega
        obtain ⟨TT, ata, bta, atc, btc, ga, oa, gb, ob, e1, e2, l1, l2, c1, c2, i1, i2, i3⟩ := HPA.out t htl
        have HE1 := Lib.hid e1
        have HE2 := Lib.hid e2
        have gw := g1.t HG.out
        have HSM := Lib.hid (fun (W : World) (hW : G w W) => same35_any TT ata bta atc btc W (i1.below hW) (i2.below hW) i3)
        clear e1 e2 i1 i2
        go_upto_region 12 with fail
        clear m1 l0
        refine wp_region_Y (S := fun W' => G wt W') 13 14 rfl (by kernel_rfl) (G.rf _).d (fun hS => ?_)
        have gd := (G.rf wt).d
        generalize wt.drew = WD at *
        refine wpAnyY_take (i := 0) (v := ?_) rfl (by kernel_rfl) (by kernel_rfl) (by kernel_rfl) (by kernel_rfl) (fun _ _ _ h => h) (Or.inl ⟨by kernel_rfl, ?_⟩) hS ?_
        rotate_left
        · intro w' hSw; go_simp; with_reducible rfl
        try simp only [Act.put, List.getElem_toArray, List.getElem_cons_zero, List.getElem_cons_succ, List.setIfInBounds_toArray, List.set_cons_zero, List.set_cons_succ]
        refine wpAnyY_take (i := 1) (v := ?_) rfl (by kernel_rfl) (by kernel_rfl) (by kernel_rfl) (by kernel_rfl) (fun _ _ _ h => h) (Or.inl ⟨by kernel_rfl, ?_⟩) hS ?_
        rotate_left
        · intro w' hSw; have s0 := (HB0.out.keep (HG.out.t hSw)).cell 1; rw [HE1.out] at s0; have s1 := (HB0.out.keep (HG.out.t hSw)).lt; go_simp; with_reducible rfl
        try simp only [Act.put, List.getElem_toArray, List.getElem_cons_zero, List.getElem_cons_succ, List.setIfInBounds_toArray, List.set_cons_zero, List.set_cons_succ]
        refine wpAnyY_take (i := 2) (v := ?_) rfl (by kernel_rfl) (by kernel_rfl) (by kernel_rfl) (by kernel_rfl) (fun _ _ _ h => h) (Or.inl ⟨by kernel_rfl, ?_⟩) hS ?_
        rotate_left
        · intro w' hSw; go_simp; with_reducible rfl
        try simp only [Act.put, List.getElem_toArray, List.getElem_cons_zero, List.getElem_cons_succ, List.setIfInBounds_toArray, List.set_cons_zero, List.set_cons_succ]
        refine wpAnyY_take (i := 3) (v := ?_) rfl (by kernel_rfl) (by kernel_rfl) (by kernel_rfl) (by kernel_rfl) (fun _ _ _ h => h) (Or.inl ⟨by kernel_rfl, ?_⟩) hS ?_
        rotate_left
        · intro w' hSw; go_simp; with_reducible rfl
        try simp only [Act.put, List.getElem_toArray, List.getElem_cons_zero, List.getElem_cons_succ, List.setIfInBounds_toArray, List.set_cons_zero, List.set_cons_succ]
        refine wpAnyY_take (i := 4) (v := ?_) rfl (by kernel_rfl) (by kernel_rfl) (by kernel_rfl) (by kernel_rfl) (fun _ _ _ h => h) (Or.inl ⟨by kernel_rfl, ?_⟩) hS ?_
        rotate_left
        · intro w' hSw; go_simp; with_reducible rfl
        try simp only [Act.put, List.getElem_toArray, List.getElem_cons_zero, List.getElem_cons_succ, List.setIfInBounds_toArray, List.set_cons_zero, List.set_cons_succ]
        refine wpAnyY_take (i := 5) (v := ?_) rfl (by kernel_rfl) (by kernel_rfl) (by kernel_rfl) (by kernel_rfl) (fun _ _ _ h => h) (Or.inl ⟨by kernel_rfl, ?_⟩) hS ?_
        rotate_left
        · intro w' hSw; have e := fun q => (bcellB (gw.t hSw)).1 ga q l1; have s0 := (e _).trans c1; have s9 : ga < w'.heap.size := Nat.lt_of_lt_of_le l1 (gw.t hSw).size; clear e; go_simp; with_reducible rfl
        try simp only [Act.put, List.getElem_toArray, List.getElem_cons_zero, List.getElem_cons_succ, List.setIfInBounds_toArray, List.set_cons_zero, List.set_cons_succ]
        refine wpAnyY_take (i := 6) (v := ?_) rfl (by kernel_rfl) (by kernel_rfl) (by kernel_rfl) (by kernel_rfl) (fun _ _ _ h => h) (Or.inl ⟨by kernel_rfl, ?_⟩) hS ?_
        rotate_left
        · intro w' hSw; go_simp; with_reducible rfl
        try simp only [Act.put, List.getElem_toArray, List.getElem_cons_zero, List.getElem_cons_succ, List.setIfInBounds_toArray, List.set_cons_zero, List.set_cons_succ]
        refine wpAnyY_take (i := 7) (v := ?_) rfl (by kernel_rfl) (by kernel_rfl) (by kernel_rfl) (by kernel_rfl) (fun _ _ _ h => h) (Or.inl ⟨by kernel_rfl, ?_⟩) hS ?_
        rotate_left
        · intro w' hSw; have s0 := (HB1.out.keep (HG.out.t hSw)).cell 1; rw [HE2.out] at s0; have s1 := (HB1.out.keep (HG.out.t hSw)).lt; go_simp; with_reducible rfl
        try simp only [Act.put, List.getElem_toArray, List.getElem_cons_zero, List.getElem_cons_succ, List.setIfInBounds_toArray, List.set_cons_zero, List.set_cons_succ]
        refine wpAnyY_take (i := 8) (v := ?_) rfl (by kernel_rfl) (by kernel_rfl) (by kernel_rfl) (by kernel_rfl) (fun _ _ _ h => h) (Or.inl ⟨by kernel_rfl, ?_⟩) hS ?_
        rotate_left
        · intro w' hSw; go_simp; with_reducible rfl
        try simp only [Act.put, List.getElem_toArray, List.getElem_cons_zero, List.getElem_cons_succ, List.setIfInBounds_toArray, List.set_cons_zero, List.set_cons_succ]
        refine wpAnyY_take (i := 9) (v := ?_) rfl (by kernel_rfl) (by kernel_rfl) (by kernel_rfl) (by kernel_rfl) (fun _ _ _ h => h) (Or.inl ⟨by kernel_rfl, ?_⟩) hS ?_
        rotate_left
        · intro w' hSw; go_simp; with_reducible rfl
        try simp only [Act.put, List.getElem_toArray, List.getElem_cons_zero, List.getElem_cons_succ, List.setIfInBounds_toArray, List.set_cons_zero, List.set_cons_succ]
        refine wpAnyY_take (i := 10) (v := ?_) rfl (by kernel_rfl) (by kernel_rfl) (by kernel_rfl) (by kernel_rfl) (fun _ _ _ h => h) (Or.inl ⟨by kernel_rfl, ?_⟩) hS ?_
        rotate_left
        · intro w' hSw; go_simp; with_reducible rfl
        try simp only [Act.put, List.getElem_toArray, List.getElem_cons_zero, List.getElem_cons_succ, List.setIfInBounds_toArray, List.set_cons_zero, List.set_cons_succ]
        refine wpAnyY_take (i := 11) (v := ?_) rfl (by kernel_rfl) (by kernel_rfl) (by kernel_rfl) (by kernel_rfl) (fun _ _ _ h => h) (Or.inl ⟨by kernel_rfl, ?_⟩) hS ?_
        rotate_left
        · intro w' hSw; have e := fun q => (bcellB (gw.t hSw)).1 gb q l2; have s0 := (e _).trans c2; have s9 : gb < w'.heap.size := Nat.lt_of_lt_of_le l2 (gw.t hSw).size; clear e; go_simp; with_reducible rfl
        try simp only [Act.put, List.getElem_toArray, List.getElem_cons_zero, List.getElem_cons_succ, List.setIfInBounds_toArray, List.set_cons_zero, List.set_cons_succ]
        refine wpAnyY_oneSW (i := 12) (by kernel_rfl) rfl (by kernel_rfl) (fun K12 hK12 => ?_)
        go_simp
        refine (HSM.out _ (gw.t gd)).mono ?_
        rintro e w3 ⟨rfl, hG3⟩
        replace gd := gd.t hG3
        refine hK12.out _ _ gd (fun hS => ?_)
        clear hK12
        try simp only [Act.put, List.getElem_toArray, List.getElem_cons_zero, List.getElem_cons_succ, List.setIfInBounds_toArray, List.set_cons_zero, List.set_cons_succ]
        refine wpAnyY_oneW (i := 13) (by kernel_rfl) rfl (by kernel_rfl) (by kernel_rfl) (fun K13 hK13 => ?_)
        go_simp
        refine hK13.out _ _ ?_
        clear hK13
        try simp only [Act.put, List.getElem_toArray, List.getElem_cons_zero, List.getElem_cons_succ, List.setIfInBounds_toArray, List.set_cons_zero, List.set_cons_succ]
        refine wpAnyY_done (by kernel_rfl) ?_ _
        clear hS
        go_wp2_with fail
        go_roundw
        case rel => exact ⟨t + 1, by omega, by go_num, HG.out.t gd⟩
        case measure => simp [intOf] <;> omega
      · obtain rfl : t = m := by omega
        have hti : ¬ ((t : Nat) : Int) < t := by omega
        go_wp2_with fail
        first | exact ⟨rfl, g1.t HG.out⟩ | (go_ret; exact ⟨rfl, g1.t HG.out⟩)
end Go.Proofs.YtnkmcoljijmgpaaGreat

set_option linter.unusedSimpArgs false
set_option linter.unusedVariables false
namespace Go.Proofs.YtnkmcoljijmgpaaGreat
open Go.RowKit Go.Shelf
attribute [local go_sem] Oper.semAt_some
set_option maxRecDepth 100000
def opsE10 : Array Oper := #[{ dst := some 59, op := Go.Op.load 26 (Go.Operand.tmp 5), type := 26, pos := "law.go:124", after := #[], guard := none }, { dst := some 60, op := Go.Op.call { callee := Go.Callee.value (Go.Operand.func 34), args := #[Go.Operand.tmp 59], argTypes := #[26] }, type := 28, pos := "law.go:124", after := #[{ on := 0, ground := Go.Ground.data }], guard := none }, { dst := some 61, op := Go.Op.load 26 (Go.Operand.tmp 2), type := 26, pos := "law.go:124", after := #[], guard := none }, { dst := some 62, op := Go.Op.call { callee := Go.Callee.value (Go.Operand.func 14), args := #[Go.Operand.tmp 61], argTypes := #[26] }, type := 28, pos := "law.go:124", after := #[{ on := 2, ground := Go.Ground.data }, { on := 1, ground := Go.Ground.chain }], guard := none }, { dst := some 63, op := Go.Op.binOp Go.BinOp.eql 28 (Go.Operand.tmp 60) (Go.Operand.tmp 62) 28, type := 4, pos := "law.go:124", after := #[{ on := 1, ground := Go.Ground.data }, { on := 3, ground := Go.Ground.data }], guard := none }, { dst := some 64, op := Go.Op.move (Go.Operand.tmp 63), type := 4, pos := "law.go:124", after := #[{ on := 4, ground := Go.Ground.data }, { on := 3, ground := Go.Ground.chain }], guard := none }, { dst := some 65, op := Go.Op.load 33 (Go.Operand.tmp 6), type := 33, pos := "law.go:124", after := #[{ on := 5, ground := Go.Ground.guard }], guard := some (5, true) }, { dst := some 66, op := Go.Op.load 33 (Go.Operand.tmp 8), type := 33, pos := "law.go:124", after := #[{ on := 5, ground := Go.Ground.guard }], guard := some (5, true) }, { dst := some 67, op := Go.Op.binOp Go.BinOp.eql 33 (Go.Operand.tmp 65) (Go.Operand.tmp 66) 33, type := 4, pos := "law.go:124", after := #[{ on := 6, ground := Go.Ground.data }, { on := 7, ground := Go.Ground.data }, { on := 5, ground := Go.Ground.guard }], guard := some (5, true) }, { dst := some 68, op := Go.Op.pick (Go.Operand.tmp 64) (Go.Operand.tmp 67) (Go.Operand.const (Go.Value.bool false)), type := 4, pos := "law.go:124", after := #[{ on := 5, ground := Go.Ground.data }, { on := 8, ground := Go.Ground.data }], guard := none }, { dst := some 69, op := Go.Op.move (Go.Operand.tmp 68), type := 4, pos := "law.go:124", after := #[{ on := 9, ground := Go.Ground.data }, { on := 5, ground := Go.Ground.chain }], guard := none }, { dst := some 70, op := Go.Op.move (Go.Operand.tmp 7), type := 28, pos := "law.go:124", after := #[{ on := 10, ground := Go.Ground.guard }], guard := some (10, true) }, { dst := some 71, op := Go.Op.move (Go.Operand.tmp 9), type := 28, pos := "law.go:124", after := #[{ on := 10, ground := Go.Ground.guard }], guard := some (10, true) }, { dst := some 72, op := Go.Op.binOp Go.BinOp.eql 28 (Go.Operand.tmp 70) (Go.Operand.tmp 71) 28, type := 4, pos := "law.go:124", after := #[{ on := 11, ground := Go.Ground.data }, { on := 12, ground := Go.Ground.data }, { on := 10, ground := Go.Ground.guard }], guard := some (10, true) }, { dst := some 73, op := Go.Op.pick (Go.Operand.tmp 69) (Go.Operand.tmp 72) (Go.Operand.const (Go.Value.bool false)), type := 4, pos := "law.go:124", after := #[{ on := 10, ground := Go.Ground.data }, { on := 13, ground := Go.Ground.data }], guard := none }, { dst := some 74, op := Go.Op.move (Go.Operand.tmp 73), type := 4, pos := "law.go:124", after := #[{ on := 14, ground := Go.Ground.data }, { on := 10, ground := Go.Ground.chain }], guard := none }, { dst := some 75, op := Go.Op.move (Go.Operand.tmp 10), type := 24, pos := "law.go:124", after := #[{ on := 15, ground := Go.Ground.guard }], guard := some (15, true) }, { dst := some 76, op := Go.Op.move (Go.Operand.tmp 12), type := 24, pos := "law.go:124", after := #[{ on := 15, ground := Go.Ground.guard }], guard := some (15, true) }, { dst := some 77, op := Go.Op.call { callee := Go.Callee.value (Go.Operand.func 35), args := #[Go.Operand.tmp 75, Go.Operand.tmp 76], argTypes := #[24, 24] }, type := 4, pos := "law.go:124", after := #[{ on := 16, ground := Go.Ground.data }, { on := 17, ground := Go.Ground.data }, { on := 15, ground := Go.Ground.chain }, { on := 15, ground := Go.Ground.guard }], guard := some (15, true) }, { dst := some 78, op := Go.Op.pick (Go.Operand.tmp 74) (Go.Operand.tmp 77) (Go.Operand.const (Go.Value.bool false)), type := 4, pos := "law.go:124", after := #[{ on := 15, ground := Go.Ground.data }, { on := 18, ground := Go.Ground.data }], guard := none }, { dst := some 79, op := Go.Op.move (Go.Operand.tmp 78), type := 4, pos := "law.go:124", after := #[{ on := 19, ground := Go.Ground.data }, { on := 18, ground := Go.Ground.chain }], guard := none }, { dst := some 80, op := Go.Op.move (Go.Operand.tmp 11), type := 28, pos := "law.go:124", after := #[{ on := 20, ground := Go.Ground.guard }], guard := some (20, true) }, { dst := some 81, op := Go.Op.move (Go.Operand.tmp 13), type := 28, pos := "law.go:124", after := #[{ on := 20, ground := Go.Ground.guard }], guard := some (20, true) }, { dst := some 82, op := Go.Op.binOp Go.BinOp.eql 28 (Go.Operand.tmp 80) (Go.Operand.tmp 81) 28, type := 4, pos := "law.go:124", after := #[{ on := 21, ground := Go.Ground.data }, { on := 22, ground := Go.Ground.data }, { on := 20, ground := Go.Ground.guard }], guard := some (20, true) }, { dst := some 83, op := Go.Op.pick (Go.Operand.tmp 79) (Go.Operand.tmp 82) (Go.Operand.const (Go.Value.bool false)), type := 4, pos := "law.go:124", after := #[{ on := 20, ground := Go.Ground.data }, { on := 23, ground := Go.Ground.data }], guard := none }, { dst := some 84, op := Go.Op.move (Go.Operand.tmp 83), type := 4, pos := "law.go:124", after := #[{ on := 24, ground := Go.Ground.data }, { on := 20, ground := Go.Ground.chain }], guard := none }, { dst := some 85, op := Go.Op.move (Go.Operand.tmp 14), type := 49, pos := "law.go:124", after := #[{ on := 25, ground := Go.Ground.guard }], guard := some (25, true) }, { dst := some 86, op := Go.Op.move (Go.Operand.tmp 16), type := 49, pos := "law.go:124", after := #[{ on := 25, ground := Go.Ground.guard }], guard := some (25, true) }, { dst := some 87, op := Go.Op.call { callee := Go.Callee.value (Go.Operand.func 36), args := #[Go.Operand.tmp 85, Go.Operand.tmp 86], argTypes := #[49, 49] }, type := 4, pos := "law.go:124", after := #[{ on := 26, ground := Go.Ground.data }, { on := 27, ground := Go.Ground.data }, { on := 25, ground := Go.Ground.chain }, { on := 25, ground := Go.Ground.guard }], guard := some (25, true) }, { dst := some 88, op := Go.Op.pick (Go.Operand.tmp 84) (Go.Operand.tmp 87) (Go.Operand.const (Go.Value.bool false)), type := 4, pos := "law.go:124", after := #[{ on := 25, ground := Go.Ground.data }, { on := 28, ground := Go.Ground.data }], guard := none }, { dst := some 89, op := Go.Op.move (Go.Operand.tmp 88), type := 4, pos := "law.go:124", after := #[{ on := 29, ground := Go.Ground.data }, { on := 28, ground := Go.Ground.chain }], guard := none }, { dst := some 90, op := Go.Op.move (Go.Operand.tmp 15), type := 28, pos := "law.go:124", after := #[{ on := 30, ground := Go.Ground.guard }], guard := some (30, true) }, { dst := some 91, op := Go.Op.move (Go.Operand.tmp 17), type := 28, pos := "law.go:124", after := #[{ on := 30, ground := Go.Ground.guard }], guard := some (30, true) }, { dst := some 92, op := Go.Op.binOp Go.BinOp.eql 28 (Go.Operand.tmp 90) (Go.Operand.tmp 91) 28, type := 4, pos := "law.go:124", after := #[{ on := 31, ground := Go.Ground.data }, { on := 32, ground := Go.Ground.data }, { on := 30, ground := Go.Ground.guard }], guard := some (30, true) }, { dst := some 93, op := Go.Op.pick (Go.Operand.tmp 89) (Go.Operand.tmp 92) (Go.Operand.const (Go.Value.bool false)), type := 4, pos := "law.go:124", after := #[{ on := 30, ground := Go.Ground.data }, { on := 33, ground := Go.Ground.data }], guard := none }, { dst := some 94, op := Go.Op.move (Go.Operand.tmp 93), type := 4, pos := "law.go:124", after := #[{ on := 34, ground := Go.Ground.data }, { on := 30, ground := Go.Ground.chain }], guard := none }, { dst := some 95, op := Go.Op.load 26 (Go.Operand.tmp 5), type := 26, pos := "law.go:124", after := #[{ on := 35, ground := Go.Ground.guard }], guard := some (35, true) }, { dst := some 96, op := Go.Op.load 26 (Go.Operand.tmp 2), type := 26, pos := "law.go:124", after := #[{ on := 35, ground := Go.Ground.guard }], guard := some (35, true) }, { dst := some 97, op := Go.Op.call { callee := Go.Callee.value (Go.Operand.func 37), args := #[Go.Operand.tmp 95, Go.Operand.tmp 96], argTypes := #[26, 26] }, type := 4, pos := "law.go:124", after := #[{ on := 36, ground := Go.Ground.data }, { on := 37, ground := Go.Ground.data }, { on := 35, ground := Go.Ground.chain }, { on := 35, ground := Go.Ground.guard }], guard := some (35, true) }, { dst := some 98, op := Go.Op.pick (Go.Operand.tmp 94) (Go.Operand.tmp 97) (Go.Operand.const (Go.Value.bool false)), type := 4, pos := "law.go:124", after := #[{ on := 35, ground := Go.Ground.data }, { on := 38, ground := Go.Ground.data }], guard := none }, { dst := some 99, op := Go.Op.move (Go.Operand.tmp 98), type := 4, pos := "law.go:124", after := #[{ on := 39, ground := Go.Ground.data }, { on := 38, ground := Go.Ground.chain }], guard := none }, { dst := some 100, op := Go.Op.call { callee := Go.Callee.value (Go.Operand.func 15), args := #[], argTypes := #[] }, type := 4, pos := "law.go:124", after := #[{ on := 40, ground := Go.Ground.chain }, { on := 40, ground := Go.Ground.guard }], guard := some (40, true) }, { dst := some 101, op := Go.Op.pick (Go.Operand.tmp 99) (Go.Operand.tmp 100) (Go.Operand.const (Go.Value.bool false)), type := 4, pos := "law.go:124", after := #[{ on := 40, ground := Go.Ground.data }, { on := 41, ground := Go.Ground.data }], guard := none }, { dst := some 4, op := Go.Op.assign (Go.Operand.tmp 101), type := 4, pos := "law.go:124", after := #[{ on := 42, ground := Go.Ground.data }, { on := 41, ground := Go.Ground.chain }, { on := 0, ground := Go.Ground.phase }, { on := 1, ground := Go.Ground.phase }, { on := 2, ground := Go.Ground.phase }, { on := 3, ground := Go.Ground.phase }, { on := 4, ground := Go.Ground.phase }, { on := 5, ground := Go.Ground.phase }, { on := 6, ground := Go.Ground.phase }, { on := 7, ground := Go.Ground.phase }, { on := 8, ground := Go.Ground.phase }, { on := 9, ground := Go.Ground.phase }, { on := 10, ground := Go.Ground.phase }, { on := 11, ground := Go.Ground.phase }, { on := 12, ground := Go.Ground.phase }, { on := 13, ground := Go.Ground.phase }, { on := 14, ground := Go.Ground.phase }, { on := 15, ground := Go.Ground.phase }, { on := 16, ground := Go.Ground.phase }, { on := 17, ground := Go.Ground.phase }, { on := 18, ground := Go.Ground.phase }, { on := 19, ground := Go.Ground.phase }, { on := 20, ground := Go.Ground.phase }, { on := 21, ground := Go.Ground.phase }, { on := 22, ground := Go.Ground.phase }, { on := 23, ground := Go.Ground.phase }, { on := 24, ground := Go.Ground.phase }, { on := 25, ground := Go.Ground.phase }, { on := 26, ground := Go.Ground.phase }, { on := 27, ground := Go.Ground.phase }, { on := 28, ground := Go.Ground.phase }, { on := 29, ground := Go.Ground.phase }, { on := 30, ground := Go.Ground.phase }, { on := 31, ground := Go.Ground.phase }, { on := 32, ground := Go.Ground.phase }, { on := 33, ground := Go.Ground.phase }, { on := 34, ground := Go.Ground.phase }, { on := 35, ground := Go.Ground.phase }, { on := 36, ground := Go.Ground.phase }, { on := 37, ground := Go.Ground.phase }, { on := 38, ground := Go.Ground.phase }, { on := 39, ground := Go.Ground.phase }, { on := 40, ground := Go.Ground.phase }, { on := 41, ground := Go.Ground.phase }, { on := 42, ground := Go.Ground.phase }], guard := none }]
theorem rE10o_0 : opsE10[0]? = some { dst := some 59, op := Go.Op.load 26 (Go.Operand.tmp 5), type := 26, pos := "law.go:124", after := #[], guard := none } := rfl
theorem rE10o_1 : opsE10[1]? = some { dst := some 60, op := Go.Op.call { callee := Go.Callee.value (Go.Operand.func 34), args := #[Go.Operand.tmp 59], argTypes := #[26] }, type := 28, pos := "law.go:124", after := #[{ on := 0, ground := Go.Ground.data }], guard := none } := rfl
theorem rE10o_2 : opsE10[2]? = some { dst := some 61, op := Go.Op.load 26 (Go.Operand.tmp 2), type := 26, pos := "law.go:124", after := #[], guard := none } := rfl
theorem rE10o_3 : opsE10[3]? = some { dst := some 62, op := Go.Op.call { callee := Go.Callee.value (Go.Operand.func 14), args := #[Go.Operand.tmp 61], argTypes := #[26] }, type := 28, pos := "law.go:124", after := #[{ on := 2, ground := Go.Ground.data }, { on := 1, ground := Go.Ground.chain }], guard := none } := rfl
theorem rE10o_4 : opsE10[4]? = some { dst := some 63, op := Go.Op.binOp Go.BinOp.eql 28 (Go.Operand.tmp 60) (Go.Operand.tmp 62) 28, type := 4, pos := "law.go:124", after := #[{ on := 1, ground := Go.Ground.data }, { on := 3, ground := Go.Ground.data }], guard := none } := rfl
theorem rE10o_5 : opsE10[5]? = some { dst := some 64, op := Go.Op.move (Go.Operand.tmp 63), type := 4, pos := "law.go:124", after := #[{ on := 4, ground := Go.Ground.data }, { on := 3, ground := Go.Ground.chain }], guard := none } := rfl
theorem rE10o_6 : opsE10[6]? = some { dst := some 65, op := Go.Op.load 33 (Go.Operand.tmp 6), type := 33, pos := "law.go:124", after := #[{ on := 5, ground := Go.Ground.guard }], guard := some (5, true) } := rfl
theorem rE10o_7 : opsE10[7]? = some { dst := some 66, op := Go.Op.load 33 (Go.Operand.tmp 8), type := 33, pos := "law.go:124", after := #[{ on := 5, ground := Go.Ground.guard }], guard := some (5, true) } := rfl
theorem rE10o_8 : opsE10[8]? = some { dst := some 67, op := Go.Op.binOp Go.BinOp.eql 33 (Go.Operand.tmp 65) (Go.Operand.tmp 66) 33, type := 4, pos := "law.go:124", after := #[{ on := 6, ground := Go.Ground.data }, { on := 7, ground := Go.Ground.data }, { on := 5, ground := Go.Ground.guard }], guard := some (5, true) } := rfl
theorem rE10o_9 : opsE10[9]? = some { dst := some 68, op := Go.Op.pick (Go.Operand.tmp 64) (Go.Operand.tmp 67) (Go.Operand.const (Go.Value.bool false)), type := 4, pos := "law.go:124", after := #[{ on := 5, ground := Go.Ground.data }, { on := 8, ground := Go.Ground.data }], guard := none } := rfl
theorem rE10o_10 : opsE10[10]? = some { dst := some 69, op := Go.Op.move (Go.Operand.tmp 68), type := 4, pos := "law.go:124", after := #[{ on := 9, ground := Go.Ground.data }, { on := 5, ground := Go.Ground.chain }], guard := none } := rfl
theorem rE10o_11 : opsE10[11]? = some { dst := some 70, op := Go.Op.move (Go.Operand.tmp 7), type := 28, pos := "law.go:124", after := #[{ on := 10, ground := Go.Ground.guard }], guard := some (10, true) } := rfl
theorem rE10o_12 : opsE10[12]? = some { dst := some 71, op := Go.Op.move (Go.Operand.tmp 9), type := 28, pos := "law.go:124", after := #[{ on := 10, ground := Go.Ground.guard }], guard := some (10, true) } := rfl
theorem rE10o_13 : opsE10[13]? = some { dst := some 72, op := Go.Op.binOp Go.BinOp.eql 28 (Go.Operand.tmp 70) (Go.Operand.tmp 71) 28, type := 4, pos := "law.go:124", after := #[{ on := 11, ground := Go.Ground.data }, { on := 12, ground := Go.Ground.data }, { on := 10, ground := Go.Ground.guard }], guard := some (10, true) } := rfl
theorem rE10o_14 : opsE10[14]? = some { dst := some 73, op := Go.Op.pick (Go.Operand.tmp 69) (Go.Operand.tmp 72) (Go.Operand.const (Go.Value.bool false)), type := 4, pos := "law.go:124", after := #[{ on := 10, ground := Go.Ground.data }, { on := 13, ground := Go.Ground.data }], guard := none } := rfl
theorem rE10o_15 : opsE10[15]? = some { dst := some 74, op := Go.Op.move (Go.Operand.tmp 73), type := 4, pos := "law.go:124", after := #[{ on := 14, ground := Go.Ground.data }, { on := 10, ground := Go.Ground.chain }], guard := none } := rfl
theorem rE10o_16 : opsE10[16]? = some { dst := some 75, op := Go.Op.move (Go.Operand.tmp 10), type := 24, pos := "law.go:124", after := #[{ on := 15, ground := Go.Ground.guard }], guard := some (15, true) } := rfl
theorem rE10o_17 : opsE10[17]? = some { dst := some 76, op := Go.Op.move (Go.Operand.tmp 12), type := 24, pos := "law.go:124", after := #[{ on := 15, ground := Go.Ground.guard }], guard := some (15, true) } := rfl
theorem rE10o_18 : opsE10[18]? = some { dst := some 77, op := Go.Op.call { callee := Go.Callee.value (Go.Operand.func 35), args := #[Go.Operand.tmp 75, Go.Operand.tmp 76], argTypes := #[24, 24] }, type := 4, pos := "law.go:124", after := #[{ on := 16, ground := Go.Ground.data }, { on := 17, ground := Go.Ground.data }, { on := 15, ground := Go.Ground.chain }, { on := 15, ground := Go.Ground.guard }], guard := some (15, true) } := rfl
theorem rE10o_19 : opsE10[19]? = some { dst := some 78, op := Go.Op.pick (Go.Operand.tmp 74) (Go.Operand.tmp 77) (Go.Operand.const (Go.Value.bool false)), type := 4, pos := "law.go:124", after := #[{ on := 15, ground := Go.Ground.data }, { on := 18, ground := Go.Ground.data }], guard := none } := rfl
theorem rE10o_20 : opsE10[20]? = some { dst := some 79, op := Go.Op.move (Go.Operand.tmp 78), type := 4, pos := "law.go:124", after := #[{ on := 19, ground := Go.Ground.data }, { on := 18, ground := Go.Ground.chain }], guard := none } := rfl
theorem rE10o_21 : opsE10[21]? = some { dst := some 80, op := Go.Op.move (Go.Operand.tmp 11), type := 28, pos := "law.go:124", after := #[{ on := 20, ground := Go.Ground.guard }], guard := some (20, true) } := rfl
theorem rE10o_22 : opsE10[22]? = some { dst := some 81, op := Go.Op.move (Go.Operand.tmp 13), type := 28, pos := "law.go:124", after := #[{ on := 20, ground := Go.Ground.guard }], guard := some (20, true) } := rfl
theorem rE10o_23 : opsE10[23]? = some { dst := some 82, op := Go.Op.binOp Go.BinOp.eql 28 (Go.Operand.tmp 80) (Go.Operand.tmp 81) 28, type := 4, pos := "law.go:124", after := #[{ on := 21, ground := Go.Ground.data }, { on := 22, ground := Go.Ground.data }, { on := 20, ground := Go.Ground.guard }], guard := some (20, true) } := rfl
theorem rE10o_24 : opsE10[24]? = some { dst := some 83, op := Go.Op.pick (Go.Operand.tmp 79) (Go.Operand.tmp 82) (Go.Operand.const (Go.Value.bool false)), type := 4, pos := "law.go:124", after := #[{ on := 20, ground := Go.Ground.data }, { on := 23, ground := Go.Ground.data }], guard := none } := rfl
theorem rE10o_25 : opsE10[25]? = some { dst := some 84, op := Go.Op.move (Go.Operand.tmp 83), type := 4, pos := "law.go:124", after := #[{ on := 24, ground := Go.Ground.data }, { on := 20, ground := Go.Ground.chain }], guard := none } := rfl
theorem rE10o_26 : opsE10[26]? = some { dst := some 85, op := Go.Op.move (Go.Operand.tmp 14), type := 49, pos := "law.go:124", after := #[{ on := 25, ground := Go.Ground.guard }], guard := some (25, true) } := rfl
theorem rE10o_27 : opsE10[27]? = some { dst := some 86, op := Go.Op.move (Go.Operand.tmp 16), type := 49, pos := "law.go:124", after := #[{ on := 25, ground := Go.Ground.guard }], guard := some (25, true) } := rfl
theorem rE10o_28 : opsE10[28]? = some { dst := some 87, op := Go.Op.call { callee := Go.Callee.value (Go.Operand.func 36), args := #[Go.Operand.tmp 85, Go.Operand.tmp 86], argTypes := #[49, 49] }, type := 4, pos := "law.go:124", after := #[{ on := 26, ground := Go.Ground.data }, { on := 27, ground := Go.Ground.data }, { on := 25, ground := Go.Ground.chain }, { on := 25, ground := Go.Ground.guard }], guard := some (25, true) } := rfl
theorem rE10o_29 : opsE10[29]? = some { dst := some 88, op := Go.Op.pick (Go.Operand.tmp 84) (Go.Operand.tmp 87) (Go.Operand.const (Go.Value.bool false)), type := 4, pos := "law.go:124", after := #[{ on := 25, ground := Go.Ground.data }, { on := 28, ground := Go.Ground.data }], guard := none } := rfl
theorem rE10o_30 : opsE10[30]? = some { dst := some 89, op := Go.Op.move (Go.Operand.tmp 88), type := 4, pos := "law.go:124", after := #[{ on := 29, ground := Go.Ground.data }, { on := 28, ground := Go.Ground.chain }], guard := none } := rfl
theorem rE10o_31 : opsE10[31]? = some { dst := some 90, op := Go.Op.move (Go.Operand.tmp 15), type := 28, pos := "law.go:124", after := #[{ on := 30, ground := Go.Ground.guard }], guard := some (30, true) } := rfl
theorem rE10o_32 : opsE10[32]? = some { dst := some 91, op := Go.Op.move (Go.Operand.tmp 17), type := 28, pos := "law.go:124", after := #[{ on := 30, ground := Go.Ground.guard }], guard := some (30, true) } := rfl
theorem rE10o_33 : opsE10[33]? = some { dst := some 92, op := Go.Op.binOp Go.BinOp.eql 28 (Go.Operand.tmp 90) (Go.Operand.tmp 91) 28, type := 4, pos := "law.go:124", after := #[{ on := 31, ground := Go.Ground.data }, { on := 32, ground := Go.Ground.data }, { on := 30, ground := Go.Ground.guard }], guard := some (30, true) } := rfl
theorem rE10o_34 : opsE10[34]? = some { dst := some 93, op := Go.Op.pick (Go.Operand.tmp 89) (Go.Operand.tmp 92) (Go.Operand.const (Go.Value.bool false)), type := 4, pos := "law.go:124", after := #[{ on := 30, ground := Go.Ground.data }, { on := 33, ground := Go.Ground.data }], guard := none } := rfl
theorem rE10o_35 : opsE10[35]? = some { dst := some 94, op := Go.Op.move (Go.Operand.tmp 93), type := 4, pos := "law.go:124", after := #[{ on := 34, ground := Go.Ground.data }, { on := 30, ground := Go.Ground.chain }], guard := none } := rfl
theorem rE10o_36 : opsE10[36]? = some { dst := some 95, op := Go.Op.load 26 (Go.Operand.tmp 5), type := 26, pos := "law.go:124", after := #[{ on := 35, ground := Go.Ground.guard }], guard := some (35, true) } := rfl
theorem rE10o_37 : opsE10[37]? = some { dst := some 96, op := Go.Op.load 26 (Go.Operand.tmp 2), type := 26, pos := "law.go:124", after := #[{ on := 35, ground := Go.Ground.guard }], guard := some (35, true) } := rfl
theorem rE10o_38 : opsE10[38]? = some { dst := some 97, op := Go.Op.call { callee := Go.Callee.value (Go.Operand.func 37), args := #[Go.Operand.tmp 95, Go.Operand.tmp 96], argTypes := #[26, 26] }, type := 4, pos := "law.go:124", after := #[{ on := 36, ground := Go.Ground.data }, { on := 37, ground := Go.Ground.data }, { on := 35, ground := Go.Ground.chain }, { on := 35, ground := Go.Ground.guard }], guard := some (35, true) } := rfl
theorem rE10o_39 : opsE10[39]? = some { dst := some 98, op := Go.Op.pick (Go.Operand.tmp 94) (Go.Operand.tmp 97) (Go.Operand.const (Go.Value.bool false)), type := 4, pos := "law.go:124", after := #[{ on := 35, ground := Go.Ground.data }, { on := 38, ground := Go.Ground.data }], guard := none } := rfl
theorem rE10o_40 : opsE10[40]? = some { dst := some 99, op := Go.Op.move (Go.Operand.tmp 98), type := 4, pos := "law.go:124", after := #[{ on := 39, ground := Go.Ground.data }, { on := 38, ground := Go.Ground.chain }], guard := none } := rfl
theorem rE10o_41 : opsE10[41]? = some { dst := some 100, op := Go.Op.call { callee := Go.Callee.value (Go.Operand.func 15), args := #[], argTypes := #[] }, type := 4, pos := "law.go:124", after := #[{ on := 40, ground := Go.Ground.chain }, { on := 40, ground := Go.Ground.guard }], guard := some (40, true) } := rfl
theorem rE10o_42 : opsE10[42]? = some { dst := some 101, op := Go.Op.pick (Go.Operand.tmp 99) (Go.Operand.tmp 100) (Go.Operand.const (Go.Value.bool false)), type := 4, pos := "law.go:124", after := #[{ on := 40, ground := Go.Ground.data }, { on := 41, ground := Go.Ground.data }], guard := none } := rfl
theorem rE10o_43 : opsE10[43]? = some { dst := some 4, op := Go.Op.assign (Go.Operand.tmp 101), type := 4, pos := "law.go:124", after := #[{ on := 42, ground := Go.Ground.data }, { on := 41, ground := Go.Ground.chain }, { on := 0, ground := Go.Ground.phase }, { on := 1, ground := Go.Ground.phase }, { on := 2, ground := Go.Ground.phase }, { on := 3, ground := Go.Ground.phase }, { on := 4, ground := Go.Ground.phase }, { on := 5, ground := Go.Ground.phase }, { on := 6, ground := Go.Ground.phase }, { on := 7, ground := Go.Ground.phase }, { on := 8, ground := Go.Ground.phase }, { on := 9, ground := Go.Ground.phase }, { on := 10, ground := Go.Ground.phase }, { on := 11, ground := Go.Ground.phase }, { on := 12, ground := Go.Ground.phase }, { on := 13, ground := Go.Ground.phase }, { on := 14, ground := Go.Ground.phase }, { on := 15, ground := Go.Ground.phase }, { on := 16, ground := Go.Ground.phase }, { on := 17, ground := Go.Ground.phase }, { on := 18, ground := Go.Ground.phase }, { on := 19, ground := Go.Ground.phase }, { on := 20, ground := Go.Ground.phase }, { on := 21, ground := Go.Ground.phase }, { on := 22, ground := Go.Ground.phase }, { on := 23, ground := Go.Ground.phase }, { on := 24, ground := Go.Ground.phase }, { on := 25, ground := Go.Ground.phase }, { on := 26, ground := Go.Ground.phase }, { on := 27, ground := Go.Ground.phase }, { on := 28, ground := Go.Ground.phase }, { on := 29, ground := Go.Ground.phase }, { on := 30, ground := Go.Ground.phase }, { on := 31, ground := Go.Ground.phase }, { on := 32, ground := Go.Ground.phase }, { on := 33, ground := Go.Ground.phase }, { on := 34, ground := Go.Ground.phase }, { on := 35, ground := Go.Ground.phase }, { on := 36, ground := Go.Ground.phase }, { on := 37, ground := Go.Ground.phase }, { on := 38, ground := Go.Ground.phase }, { on := 39, ground := Go.Ground.phase }, { on := 40, ground := Go.Ground.phase }, { on := 41, ground := Go.Ground.phase }, { on := 42, ground := Go.Ground.phase }], guard := none } := rfl
theorem rE10_0 : chk .any opsE10 43 [] #[false, false, false, false, false, false, false, false, false, false, false, false, false, false, false, false, false, false, false, false, false, false, false, false, false, false, false, false, false, false, false, false, false, false, false, false, false, false, false, false, false, false, false, false] 0 #[true, false, false, false, false, false, false, false, false, false, false, false, false, false, false, false, false, false, false, false, false, false, false, false, false, false, false, false, false, false, false, false, false, false, false, false, false, false, false, false, false, false, false, false] = true := by kernel_rfl
theorem rE10_2 : chk .any opsE10 43 [] #[true, false, false, false, false, false, false, false, false, false, false, false, false, false, false, false, false, false, false, false, false, false, false, false, false, false, false, false, false, false, false, false, false, false, false, false, false, false, false, false, false, false, false, false] 2 #[true, false, true, false, false, false, false, false, false, false, false, false, false, false, false, false, false, false, false, false, false, false, false, false, false, false, false, false, false, false, false, false, false, false, false, false, false, false, false, false, false, false, false, false] = true := by kernel_rfl
theorem rE10_1 : chk1 .any opsE10 #[true, false, true, false, false, false, false, false, false, false, false, false, false, false, false, false, false, false, false, false, false, false, false, false, false, false, false, false, false, false, false, false, false, false, false, false, false, false, false, false, false, false, false, false] 1 #[true, true, true, false, false, false, false, false, false, false, false, false, false, false, false, false, false, false, false, false, false, false, false, false, false, false, false, false, false, false, false, false, false, false, false, false, false, false, false, false, false, false, false, false] = true := by kernel_rfl
theorem rE10_3 : chk1 .any opsE10 #[true, true, true, false, false, false, false, false, false, false, false, false, false, false, false, false, false, false, false, false, false, false, false, false, false, false, false, false, false, false, false, false, false, false, false, false, false, false, false, false, false, false, false, false] 3 #[true, true, true, true, false, false, false, false, false, false, false, false, false, false, false, false, false, false, false, false, false, false, false, false, false, false, false, false, false, false, false, false, false, false, false, false, false, false, false, false, false, false, false, false] = true := by kernel_rfl
theorem rE10_4 : chk .any opsE10 43 [] #[true, true, true, true, false, false, false, false, false, false, false, false, false, false, false, false, false, false, false, false, false, false, false, false, false, false, false, false, false, false, false, false, false, false, false, false, false, false, false, false, false, false, false, false] 4 #[true, true, true, true, true, false, false, false, false, false, false, false, false, false, false, false, false, false, false, false, false, false, false, false, false, false, false, false, false, false, false, false, false, false, false, false, false, false, false, false, false, false, false, false] = true := by kernel_rfl
theorem rE10_5 : chk .any opsE10 43 [] #[true, true, true, true, true, false, false, false, false, false, false, false, false, false, false, false, false, false, false, false, false, false, false, false, false, false, false, false, false, false, false, false, false, false, false, false, false, false, false, false, false, false, false, false] 5 #[true, true, true, true, true, true, false, false, false, false, false, false, false, false, false, false, false, false, false, false, false, false, false, false, false, false, false, false, false, false, false, false, false, false, false, false, false, false, false, false, false, false, false, false] = true := by kernel_rfl
theorem rE10_6 : chk .any opsE10 43 [] #[true, true, true, true, true, true, false, false, false, false, false, false, false, false, false, false, false, false, false, false, false, false, false, false, false, false, false, false, false, false, false, false, false, false, false, false, false, false, false, false, false, false, false, false] 6 #[true, true, true, true, true, true, true, false, false, false, false, false, false, false, false, false, false, false, false, false, false, false, false, false, false, false, false, false, false, false, false, false, false, false, false, false, false, false, false, false, false, false, false, false] = true := by kernel_rfl
theorem rE10_7 : chk .any opsE10 43 [] #[true, true, true, true, true, true, true, false, false, false, false, false, false, false, false, false, false, false, false, false, false, false, false, false, false, false, false, false, false, false, false, false, false, false, false, false, false, false, false, false, false, false, false, false] 7 #[true, true, true, true, true, true, true, true, false, false, false, false, false, false, false, false, false, false, false, false, false, false, false, false, false, false, false, false, false, false, false, false, false, false, false, false, false, false, false, false, false, false, false, false] = true := by kernel_rfl
theorem rE10_8 : chk .any opsE10 43 [] #[true, true, true, true, true, true, true, true, false, false, false, false, false, false, false, false, false, false, false, false, false, false, false, false, false, false, false, false, false, false, false, false, false, false, false, false, false, false, false, false, false, false, false, false] 8 #[true, true, true, true, true, true, true, true, true, false, false, false, false, false, false, false, false, false, false, false, false, false, false, false, false, false, false, false, false, false, false, false, false, false, false, false, false, false, false, false, false, false, false, false] = true := by kernel_rfl
theorem rE10_9 : chk .any opsE10 43 [] #[true, true, true, true, true, true, true, true, true, false, false, false, false, false, false, false, false, false, false, false, false, false, false, false, false, false, false, false, false, false, false, false, false, false, false, false, false, false, false, false, false, false, false, false] 9 #[true, true, true, true, true, true, true, true, true, true, false, false, false, false, false, false, false, false, false, false, false, false, false, false, false, false, false, false, false, false, false, false, false, false, false, false, false, false, false, false, false, false, false, false] = true := by kernel_rfl
theorem rE10_10 : chk .any opsE10 43 [] #[true, true, true, true, true, true, true, true, true, true, false, false, false, false, false, false, false, false, false, false, false, false, false, false, false, false, false, false, false, false, false, false, false, false, false, false, false, false, false, false, false, false, false, false] 10 #[true, true, true, true, true, true, true, true, true, true, true, false, false, false, false, false, false, false, false, false, false, false, false, false, false, false, false, false, false, false, false, false, false, false, false, false, false, false, false, false, false, false, false, false] = true := by kernel_rfl
theorem rE10_11 : chk .any opsE10 43 [] #[true, true, true, true, true, true, true, true, true, true, true, false, false, false, false, false, false, false, false, false, false, false, false, false, false, false, false, false, false, false, false, false, false, false, false, false, false, false, false, false, false, false, false, false] 11 #[true, true, true, true, true, true, true, true, true, true, true, true, false, false, false, false, false, false, false, false, false, false, false, false, false, false, false, false, false, false, false, false, false, false, false, false, false, false, false, false, false, false, false, false] = true := by kernel_rfl
theorem rE10_12 : chk .any opsE10 43 [] #[true, true, true, true, true, true, true, true, true, true, true, true, false, false, false, false, false, false, false, false, false, false, false, false, false, false, false, false, false, false, false, false, false, false, false, false, false, false, false, false, false, false, false, false] 12 #[true, true, true, true, true, true, true, true, true, true, true, true, true, false, false, false, false, false, false, false, false, false, false, false, false, false, false, false, false, false, false, false, false, false, false, false, false, false, false, false, false, false, false, false] = true := by kernel_rfl
theorem rE10_13 : chk .any opsE10 43 [] #[true, true, true, true, true, true, true, true, true, true, true, true, true, false, false, false, false, false, false, false, false, false, false, false, false, false, false, false, false, false, false, false, false, false, false, false, false, false, false, false, false, false, false, false] 13 #[true, true, true, true, true, true, true, true, true, true, true, true, true, true, false, false, false, false, false, false, false, false, false, false, false, false, false, false, false, false, false, false, false, false, false, false, false, false, false, false, false, false, false, false] = true := by kernel_rfl
theorem rE10_14 : chk .any opsE10 43 [] #[true, true, true, true, true, true, true, true, true, true, true, true, true, true, false, false, false, false, false, false, false, false, false, false, false, false, false, false, false, false, false, false, false, false, false, false, false, false, false, false, false, false, false, false] 14 #[true, true, true, true, true, true, true, true, true, true, true, true, true, true, true, false, false, false, false, false, false, false, false, false, false, false, false, false, false, false, false, false, false, false, false, false, false, false, false, false, false, false, false, false] = true := by kernel_rfl
theorem rE10_15 : chk .any opsE10 43 [] #[true, true, true, true, true, true, true, true, true, true, true, true, true, true, true, false, false, false, false, false, false, false, false, false, false, false, false, false, false, false, false, false, false, false, false, false, false, false, false, false, false, false, false, false] 15 #[true, true, true, true, true, true, true, true, true, true, true, true, true, true, true, true, false, false, false, false, false, false, false, false, false, false, false, false, false, false, false, false, false, false, false, false, false, false, false, false, false, false, false, false] = true := by kernel_rfl
theorem rE10_16 : chk .any opsE10 43 [] #[true, true, true, true, true, true, true, true, true, true, true, true, true, true, true, true, false, false, false, false, false, false, false, false, false, false, false, false, false, false, false, false, false, false, false, false, false, false, false, false, false, false, false, false] 16 #[true, true, true, true, true, true, true, true, true, true, true, true, true, true, true, true, true, false, false, false, false, false, false, false, false, false, false, false, false, false, false, false, false, false, false, false, false, false, false, false, false, false, false, false] = true := by kernel_rfl
theorem rE10_17 : chk .any opsE10 43 [] #[true, true, true, true, true, true, true, true, true, true, true, true, true, true, true, true, true, false, false, false, false, false, false, false, false, false, false, false, false, false, false, false, false, false, false, false, false, false, false, false, false, false, false, false] 17 #[true, true, true, true, true, true, true, true, true, true, true, true, true, true, true, true, true, true, false, false, false, false, false, false, false, false, false, false, false, false, false, false, false, false, false, false, false, false, false, false, false, false, false, false] = true := by kernel_rfl
theorem rE10_18 : chk1 .any opsE10 #[true, true, true, true, true, true, true, true, true, true, true, true, true, true, true, true, true, true, false, false, false, false, false, false, false, false, false, false, false, false, false, false, false, false, false, false, false, false, false, false, false, false, false, false] 18 #[true, true, true, true, true, true, true, true, true, true, true, true, true, true, true, true, true, true, true, false, false, false, false, false, false, false, false, false, false, false, false, false, false, false, false, false, false, false, false, false, false, false, false, false] = true := by kernel_rfl
theorem rE10_19 : chk .any opsE10 43 [] #[true, true, true, true, true, true, true, true, true, true, true, true, true, true, true, true, true, true, true, false, false, false, false, false, false, false, false, false, false, false, false, false, false, false, false, false, false, false, false, false, false, false, false, false] 19 #[true, true, true, true, true, true, true, true, true, true, true, true, true, true, true, true, true, true, true, true, false, false, false, false, false, false, false, false, false, false, false, false, false, false, false, false, false, false, false, false, false, false, false, false] = true := by kernel_rfl
theorem rE10_20 : chk .any opsE10 43 [] #[true, true, true, true, true, true, true, true, true, true, true, true, true, true, true, true, true, true, true, true, false, false, false, false, false, false, false, false, false, false, false, false, false, false, false, false, false, false, false, false, false, false, false, false] 20 #[true, true, true, true, true, true, true, true, true, true, true, true, true, true, true, true, true, true, true, true, true, false, false, false, false, false, false, false, false, false, false, false, false, false, false, false, false, false, false, false, false, false, false, false] = true := by kernel_rfl
theorem rE10_21 : chk .any opsE10 43 [] #[true, true, true, true, true, true, true, true, true, true, true, true, true, true, true, true, true, true, true, true, true, false, false, false, false, false, false, false, false, false, false, false, false, false, false, false, false, false, false, false, false, false, false, false] 21 #[true, true, true, true, true, true, true, true, true, true, true, true, true, true, true, true, true, true, true, true, true, true, false, false, false, false, false, false, false, false, false, false, false, false, false, false, false, false, false, false, false, false, false, false] = true := by kernel_rfl
theorem rE10_22 : chk .any opsE10 43 [] #[true, true, true, true, true, true, true, true, true, true, true, true, true, true, true, true, true, true, true, true, true, true, false, false, false, false, false, false, false, false, false, false, false, false, false, false, false, false, false, false, false, false, false, false] 22 #[true, true, true, true, true, true, true, true, true, true, true, true, true, true, true, true, true, true, true, true, true, true, true, false, false, false, false, false, false, false, false, false, false, false, false, false, false, false, false, false, false, false, false, false] = true := by kernel_rfl
theorem rE10_23 : chk .any opsE10 43 [] #[true, true, true, true, true, true, true, true, true, true, true, true, true, true, true, true, true, true, true, true, true, true, true, false, false, false, false, false, false, false, false, false, false, false, false, false, false, false, false, false, false, false, false, false] 23 #[true, true, true, true, true, true, true, true, true, true, true, true, true, true, true, true, true, true, true, true, true, true, true, true, false, false, false, false, false, false, false, false, false, false, false, false, false, false, false, false, false, false, false, false] = true := by kernel_rfl
theorem rE10_24 : chk .any opsE10 43 [] #[true, true, true, true, true, true, true, true, true, true, true, true, true, true, true, true, true, true, true, true, true, true, true, true, false, false, false, false, false, false, false, false, false, false, false, false, false, false, false, false, false, false, false, false] 24 #[true, true, true, true, true, true, true, true, true, true, true, true, true, true, true, true, true, true, true, true, true, true, true, true, true, false, false, false, false, false, false, false, false, false, false, false, false, false, false, false, false, false, false, false] = true := by kernel_rfl
theorem rE10_25 : chk .any opsE10 43 [] #[true, true, true, true, true, true, true, true, true, true, true, true, true, true, true, true, true, true, true, true, true, true, true, true, true, false, false, false, false, false, false, false, false, false, false, false, false, false, false, false, false, false, false, false] 25 #[true, true, true, true, true, true, true, true, true, true, true, true, true, true, true, true, true, true, true, true, true, true, true, true, true, true, false, false, false, false, false, false, false, false, false, false, false, false, false, false, false, false, false, false] = true := by kernel_rfl
theorem rE10_26 : chk .any opsE10 43 [] #[true, true, true, true, true, true, true, true, true, true, true, true, true, true, true, true, true, true, true, true, true, true, true, true, true, true, false, false, false, false, false, false, false, false, false, false, false, false, false, false, false, false, false, false] 26 #[true, true, true, true, true, true, true, true, true, true, true, true, true, true, true, true, true, true, true, true, true, true, true, true, true, true, true, false, false, false, false, false, false, false, false, false, false, false, false, false, false, false, false, false] = true := by kernel_rfl
theorem rE10_27 : chk .any opsE10 43 [] #[true, true, true, true, true, true, true, true, true, true, true, true, true, true, true, true, true, true, true, true, true, true, true, true, true, true, true, false, false, false, false, false, false, false, false, false, false, false, false, false, false, false, false, false] 27 #[true, true, true, true, true, true, true, true, true, true, true, true, true, true, true, true, true, true, true, true, true, true, true, true, true, true, true, true, false, false, false, false, false, false, false, false, false, false, false, false, false, false, false, false] = true := by kernel_rfl
theorem rE10_28 : chk1 .any opsE10 #[true, true, true, true, true, true, true, true, true, true, true, true, true, true, true, true, true, true, true, true, true, true, true, true, true, true, true, true, false, false, false, false, false, false, false, false, false, false, false, false, false, false, false, false] 28 #[true, true, true, true, true, true, true, true, true, true, true, true, true, true, true, true, true, true, true, true, true, true, true, true, true, true, true, true, true, false, false, false, false, false, false, false, false, false, false, false, false, false, false, false] = true := by kernel_rfl
theorem rE10_29 : chk .any opsE10 43 [] #[true, true, true, true, true, true, true, true, true, true, true, true, true, true, true, true, true, true, true, true, true, true, true, true, true, true, true, true, true, false, false, false, false, false, false, false, false, false, false, false, false, false, false, false] 29 #[true, true, true, true, true, true, true, true, true, true, true, true, true, true, true, true, true, true, true, true, true, true, true, true, true, true, true, true, true, true, false, false, false, false, false, false, false, false, false, false, false, false, false, false] = true := by kernel_rfl
theorem rE10_30 : chk .any opsE10 43 [] #[true, true, true, true, true, true, true, true, true, true, true, true, true, true, true, true, true, true, true, true, true, true, true, true, true, true, true, true, true, true, false, false, false, false, false, false, false, false, false, false, false, false, false, false] 30 #[true, true, true, true, true, true, true, true, true, true, true, true, true, true, true, true, true, true, true, true, true, true, true, true, true, true, true, true, true, true, true, false, false, false, false, false, false, false, false, false, false, false, false, false] = true := by kernel_rfl
theorem rE10_31 : chk .any opsE10 43 [] #[true, true, true, true, true, true, true, true, true, true, true, true, true, true, true, true, true, true, true, true, true, true, true, true, true, true, true, true, true, true, true, false, false, false, false, false, false, false, false, false, false, false, false, false] 31 #[true, true, true, true, true, true, true, true, true, true, true, true, true, true, true, true, true, true, true, true, true, true, true, true, true, true, true, true, true, true, true, true, false, false, false, false, false, false, false, false, false, false, false, false] = true := by kernel_rfl
theorem rE10_32 : chk .any opsE10 43 [] #[true, true, true, true, true, true, true, true, true, true, true, true, true, true, true, true, true, true, true, true, true, true, true, true, true, true, true, true, true, true, true, true, false, false, false, false, false, false, false, false, false, false, false, false] 32 #[true, true, true, true, true, true, true, true, true, true, true, true, true, true, true, true, true, true, true, true, true, true, true, true, true, true, true, true, true, true, true, true, true, false, false, false, false, false, false, false, false, false, false, false] = true := by kernel_rfl
theorem rE10_33 : chk .any opsE10 43 [] #[true, true, true, true, true, true, true, true, true, true, true, true, true, true, true, true, true, true, true, true, true, true, true, true, true, true, true, true, true, true, true, true, true, false, false, false, false, false, false, false, false, false, false, false] 33 #[true, true, true, true, true, true, true, true, true, true, true, true, true, true, true, true, true, true, true, true, true, true, true, true, true, true, true, true, true, true, true, true, true, true, false, false, false, false, false, false, false, false, false, false] = true := by kernel_rfl
theorem rE10_34 : chk .any opsE10 43 [] #[true, true, true, true, true, true, true, true, true, true, true, true, true, true, true, true, true, true, true, true, true, true, true, true, true, true, true, true, true, true, true, true, true, true, false, false, false, false, false, false, false, false, false, false] 34 #[true, true, true, true, true, true, true, true, true, true, true, true, true, true, true, true, true, true, true, true, true, true, true, true, true, true, true, true, true, true, true, true, true, true, true, false, false, false, false, false, false, false, false, false] = true := by kernel_rfl
theorem rE10_35 : chk .any opsE10 43 [] #[true, true, true, true, true, true, true, true, true, true, true, true, true, true, true, true, true, true, true, true, true, true, true, true, true, true, true, true, true, true, true, true, true, true, true, false, false, false, false, false, false, false, false, false] 35 #[true, true, true, true, true, true, true, true, true, true, true, true, true, true, true, true, true, true, true, true, true, true, true, true, true, true, true, true, true, true, true, true, true, true, true, true, false, false, false, false, false, false, false, false] = true := by kernel_rfl
theorem rE10_36 : chk .any opsE10 43 [] #[true, true, true, true, true, true, true, true, true, true, true, true, true, true, true, true, true, true, true, true, true, true, true, true, true, true, true, true, true, true, true, true, true, true, true, true, false, false, false, false, false, false, false, false] 36 #[true, true, true, true, true, true, true, true, true, true, true, true, true, true, true, true, true, true, true, true, true, true, true, true, true, true, true, true, true, true, true, true, true, true, true, true, true, false, false, false, false, false, false, false] = true := by kernel_rfl
theorem rE10_37 : chk .any opsE10 43 [] #[true, true, true, true, true, true, true, true, true, true, true, true, true, true, true, true, true, true, true, true, true, true, true, true, true, true, true, true, true, true, true, true, true, true, true, true, true, false, false, false, false, false, false, false] 37 #[true, true, true, true, true, true, true, true, true, true, true, true, true, true, true, true, true, true, true, true, true, true, true, true, true, true, true, true, true, true, true, true, true, true, true, true, true, true, false, false, false, false, false, false] = true := by kernel_rfl
theorem rE10_38 : chk1 .any opsE10 #[true, true, true, true, true, true, true, true, true, true, true, true, true, true, true, true, true, true, true, true, true, true, true, true, true, true, true, true, true, true, true, true, true, true, true, true, true, true, false, false, false, false, false, false] 38 #[true, true, true, true, true, true, true, true, true, true, true, true, true, true, true, true, true, true, true, true, true, true, true, true, true, true, true, true, true, true, true, true, true, true, true, true, true, true, true, false, false, false, false, false] = true := by kernel_rfl
theorem rE10_39 : chk .any opsE10 43 [] #[true, true, true, true, true, true, true, true, true, true, true, true, true, true, true, true, true, true, true, true, true, true, true, true, true, true, true, true, true, true, true, true, true, true, true, true, true, true, true, false, false, false, false, false] 39 #[true, true, true, true, true, true, true, true, true, true, true, true, true, true, true, true, true, true, true, true, true, true, true, true, true, true, true, true, true, true, true, true, true, true, true, true, true, true, true, true, false, false, false, false] = true := by kernel_rfl
theorem rE10_40 : chk .any opsE10 43 [] #[true, true, true, true, true, true, true, true, true, true, true, true, true, true, true, true, true, true, true, true, true, true, true, true, true, true, true, true, true, true, true, true, true, true, true, true, true, true, true, true, false, false, false, false] 40 #[true, true, true, true, true, true, true, true, true, true, true, true, true, true, true, true, true, true, true, true, true, true, true, true, true, true, true, true, true, true, true, true, true, true, true, true, true, true, true, true, true, false, false, false] = true := by kernel_rfl
theorem rE10_41 : chk1 .any opsE10 #[true, true, true, true, true, true, true, true, true, true, true, true, true, true, true, true, true, true, true, true, true, true, true, true, true, true, true, true, true, true, true, true, true, true, true, true, true, true, true, true, true, false, false, false] 41 #[true, true, true, true, true, true, true, true, true, true, true, true, true, true, true, true, true, true, true, true, true, true, true, true, true, true, true, true, true, true, true, true, true, true, true, true, true, true, true, true, true, true, false, false] = true := by kernel_rfl
theorem rE10_42 : chk .any opsE10 43 [] #[true, true, true, true, true, true, true, true, true, true, true, true, true, true, true, true, true, true, true, true, true, true, true, true, true, true, true, true, true, true, true, true, true, true, true, true, true, true, true, true, true, true, false, false] 42 #[true, true, true, true, true, true, true, true, true, true, true, true, true, true, true, true, true, true, true, true, true, true, true, true, true, true, true, true, true, true, true, true, true, true, true, true, true, true, true, true, true, true, true, false] = true := by kernel_rfl
end Go.Proofs.YtnkmcoljijmgpaaGreat

set_option linter.unusedSimpArgs false
set_option linter.unusedVariables false
namespace Go.Proofs.YtnkmcoljijmgpaaGreat
open Go.RowKit Go.Shelf Go.Sort Go.Maps
attribute [local go_sem] Oper.semAt_some
set_option maxRecDepth 100000 in
set_option maxHeartbeats 16000000 in
theorem PotsLaw (r : Ra) (p : Int) (w : World) (h : r.Laid w) (hn : r.Nil) : Calls Tryz.prog 10 #[.agg r.v, .int .i64 p] w fun e w' => e = .returned (.bool true) ∧ G w w' := by
  have HFA := Lib.hid (fun (W : World) (hW : G w W) => Far8_any r W (h.keep hW))
  have HWK := Lib.hid (fun (W : World) => works_any W)
  have hrv : r.v = #[.slice r.ra r.racers.length r.rc, .slice r.pa r.pools.length r.pc, .slice r.ta r.protests.length r.tc] := rfl
  obtain ⟨W1, hW1⟩ : ∃ W1, W1 = w.alloc (.cells #[.slice r.ra r.racers.length r.rc, .slice r.pa r.pools.length r.pc, .slice r.ta r.protests.length r.tc] 26) := ⟨_, rfl⟩
  have g00 : G w W1 := by rw [hW1]; exact (G.rf _).a _
  have b0 : Blk W1 w.heap.size 26 #[.slice r.ra r.racers.length r.rc, .slice r.pa r.pools.length r.pc, .slice r.ta r.protests.length r.tc] := by rw [hW1]; exact Blk.new _ _ _
  rw [hrv] at HFA ⊢
  go_enter Tryz.func10, Tryz.ntmps10
  go_upto_region 1 with fail
  change Code.wp _ _ _ _ (w.alloc (.cells #[.slice r.ra r.racers.length r.rc, .slice r.pa r.pools.length r.pc, .slice r.ta r.protests.length r.tc] 26))
  rw [← hW1]
  clear hW1
  have m0 := b0.cell 0
  have m1 := b0.cell 1
  have m2 := b0.cell 2
  have l0 := b0.lt
  cases hFB : farR r
  rotate_left
  · rw [hFB] at HFA
    clear h hn
    go_wp2_with (first | (go_at_call 13; refine (HFA.out _ g00).mono ?_; rintro e w2 ⟨rfl, hG2⟩) | (go_at_call 15; refine (HWK.out _).mono ?_; rintro e w3 ⟨rfl, hG3⟩))
    have gz := (g00.t hG2).t hG3
    first | exact ⟨rfl, gz⟩ | (go_ret; exact ⟨rfl, gz⟩)
  rw [hFB] at HFA
  have hat := h.at hFB
  have HCP := Lib.hid (fun (W : World) (hW : G w W) => (show Calls Tryz.prog 24 #[.agg r.v] W (fun e w' => G W w' ∧ ∃ o : Ra, e = .returned (.agg #[.slice o.ra o.racers.length o.rc, .slice o.pa o.pools.length o.pc, .slice o.ta o.protests.length o.tc]) ∧ CpIs w' W.heap.size r o) from Copy_any r W (hat.keep hW) hn))
  rw [hrv] at HCP
  clear h hn hFB
  go_upto_region 4 with (first | (go_at_call 13; refine (HFA.out _ g00).mono ?_; rintro e w2 ⟨rfl, hG2⟩; have b02 := b0.keep hG2; have g2 := g00.t hG2; clear m0 m1 m2 l0; have m0 := b02.cell 0; have m1 := b02.cell 1; have m2 := b02.cell 2; have l0 := b02.lt) | (go_at_call 24; refine (HCP.out _ g2).mono ?_; rintro e w3 ⟨hG3, o, rfl, hCP⟩))
  have g04 := (g2.t hG3).a (.cells #[.slice o.ra o.racers.length o.rc, .slice o.pa o.pools.length o.pc, .slice o.ta o.protests.length o.tc] 26)
  have hB0 := (b02.keep hG3).alloc (.cells #[.slice o.ra o.racers.length o.rc, .slice o.pa o.pools.length o.pc, .slice o.ta o.protests.length o.tc] 26)
  have hBK := Blk.new w3 26 #[.slice o.ra o.racers.length o.rc, .slice o.pa o.pools.length o.pc, .slice o.ta o.protests.length o.tc]
  have hoA3 := copy_at ((hat.keep (g2.t hG3))) hCP
  have hoA := hoA3.keep ((G.rf w3).a (.cells #[.slice o.ra o.racers.length o.rc, .slice o.pa o.pools.length o.pc, .slice o.ta o.protests.length o.tc] 26))
  obtain ⟨hq, hx1, hx2, hx3, hx4⟩ := copy_X hCP.er hCP.ep hCP.et p
  have hrb := race_copy hCP.er hCP.ep hCP.et
  have hr4 := hat.keep g04
  have HC37 : Hid (∀ W, G (w3.alloc (.cells #[.slice o.ra o.racers.length o.rc, .slice o.pa o.pools.length o.pc, .slice o.ta o.protests.length o.tc] 26)) W → Calls Tryz.prog 37 #[.agg #[.slice o.ra o.racers.length o.rc, .slice o.pa o.pools.length o.pc, .slice o.ta o.protests.length o.tc], .agg #[.slice r.ra r.racers.length r.rc, .slice r.pa r.pools.length r.pc, .slice r.ta r.protests.length r.tc]] W fun e w' => e = .returned (.bool true) ∧ G W w') := fun W hW => same37_any o r W (hoA.keep hW) (hr4.keep hW) hCP.er hCP.ep hCP.et
  have HC34 : Hid (∀ W, G (w3.alloc (.cells #[.slice o.ra o.racers.length o.rc, .slice o.pa o.pools.length o.pc, .slice o.ta o.protests.length o.tc] 26)) W → Calls Tryz.prog 34 #[.agg #[.slice o.ra o.racers.length o.rc, .slice o.pa o.pools.length o.pc, .slice o.ta o.protests.length o.tc]] W fun e w' => e = .returned (.int .i64 (chk8 r)) ∧ G W w') := fun W hW => by
    have hc := Check_any o W (hoA.keep hW)
    have e : chk8 o = chk8 r := by unfold chk8; rw [hrb]
    rw [e] at hc
    exact hc
  have HC14 : Hid (∀ W, G (w3.alloc (.cells #[.slice o.ra o.racers.length o.rc, .slice o.pa o.pools.length o.pc, .slice o.ta o.protests.length o.tc] 26)) W → Calls Tryz.prog 14 #[.agg #[.slice r.ra r.racers.length r.rc, .slice r.pa r.pools.length r.pc, .slice r.ta r.protests.length r.tc]] W fun e w' => e = .returned (.int .i64 (chk8 r)) ∧ G W w') := fun W hW => refCheck8_any r W (hr4.keep hW)
  have HC17 : Hid (∀ W, G (w3.alloc (.cells #[.slice o.ra o.racers.length o.rc, .slice o.pa o.pools.length o.pc, .slice o.ta o.protests.length o.tc] 26)) W → Calls Tryz.prog 17 #[.agg #[.slice o.ra o.racers.length o.rc, .slice o.pa o.pools.length o.pc, .slice o.ta o.protests.length o.tc], .int .i64 p] W fun e w' => G W w' ∧ e = .returned (.tuple #[.agg #[.int .i64 (POX r p).1, .int .i64 (POX r p).2.1, .int .i64 (POX r p).2.2.1, .int .i64 (POX r p).2.2.2], .int .i64 (qE r p [])])) := fun W hW => by
    have hc := (Pot_any o p W (hoA.keep hW)).mono fun _ _ hh => poX_of hh
    rw [hq, hx4] at hc
    exact hc
  have HC31 : Hid (∀ W, G (w3.alloc (.cells #[.slice o.ra o.racers.length o.rc, .slice o.pa o.pools.length o.pc, .slice o.ta o.protests.length o.tc] 26)) W → Calls Tryz.prog 31 #[.agg #[.slice r.ra r.racers.length r.rc, .slice r.pa r.pools.length r.pc, .slice r.ta r.protests.length r.tc], .int .i64 p] W fun e w' => G W w' ∧ e = .returned (.tuple #[.agg #[.int .i64 (POX r p).1, .int .i64 (POX r p).2.1, .int .i64 (POX r p).2.2.1, .int .i64 (POX r p).2.2.2], .int .i64 (qE r p [])])) := fun W hW => (rPot_any r p W (hr4.keep hW)).mono fun _ _ hh => poX_of hh
  have HC22 : Hid (∀ W, G (w3.alloc (.cells #[.slice o.ra o.racers.length o.rc, .slice o.pa o.pools.length o.pc, .slice o.ta o.protests.length o.tc] 26)) W → Calls Tryz.prog 22 #[.agg #[.slice o.ra o.racers.length o.rc, .slice o.pa o.pools.length o.pc, .slice o.ta o.protests.length o.tc], .int .i64 p] W fun e w' => G W w' ∧ ∃ a c, e = .returned (.tuple #[.slice a (PLX r p).length c, .int .i64 (qE r p [])]) ∧ IntsAt w' a (PLX r p)) := fun W hW => by
    have hc := (Places_any o p W (hoA.keep hW)).mono fun _ _ hh => plX_of hh
    rw [hq, hx1] at hc
    exact hc
  have HC32 : Hid (∀ W, G (w3.alloc (.cells #[.slice o.ra o.racers.length o.rc, .slice o.pa o.pools.length o.pc, .slice o.ta o.protests.length o.tc] 26)) W → Calls Tryz.prog 32 #[.agg #[.slice r.ra r.racers.length r.rc, .slice r.pa r.pools.length r.pc, .slice r.ta r.protests.length r.tc], .int .i64 p] W fun e w' => G W w' ∧ ∃ a c, e = .returned (.tuple #[.slice a (PLX r p).length c, .int .i64 (qE r p [])]) ∧ IntsAt w' a (PLX r p)) := fun W hW => (rPlaces_any r p W (hr4.keep hW)).mono fun _ _ hh => plX_of hh
  have HC21 : Hid (∀ W, G (w3.alloc (.cells #[.slice o.ra o.racers.length o.rc, .slice o.pa o.pools.length o.pc, .slice o.ta o.protests.length o.tc] 26)) W → Calls Tryz.prog 21 #[.agg #[.slice o.ra o.racers.length o.rc, .slice o.pa o.pools.length o.pc, .slice o.ta o.protests.length o.tc], .int .i64 p] W fun e w' => G W w' ∧ ∃ a c, e = .returned (.tuple #[.slice a (GSX r p).length c, .int .i64 (qE r p [])]) ∧ GrpAt w' a (GSX r p)) := fun W hW => by
    have hc := (Order_any o p W (hoA.keep hW)).mono fun _ _ hh => gsX_of1 hh
    rw [hq, hx2] at hc
    exact hc
  have HC33 : Hid (∀ W, G (w3.alloc (.cells #[.slice o.ra o.racers.length o.rc, .slice o.pa o.pools.length o.pc, .slice o.ta o.protests.length o.tc] 26)) W → Calls Tryz.prog 33 #[.agg #[.slice r.ra r.racers.length r.rc, .slice r.pa r.pools.length r.pc, .slice r.ta r.protests.length r.tc], .int .i64 p] W fun e w' => G W w' ∧ ∃ a c, e = .returned (.tuple #[.slice a (GSX r p).length c, .int .i64 (qE r p [])]) ∧ GrpAt w' a (GSX r p)) := fun W hW => (rOrder_any r p W (hr4.keep hW)).mono fun _ _ hh => gsX_of2 hh
  obtain ⟨hl1, hl2, hl3, _⟩ := X_len (r := r) hat.nr p
  generalize (POX r p).1 = t1 at *
  generalize (POX r p).2.1 = t2 at *
  generalize (POX r p).2.2.1 = t3 at *
  generalize (POX r p).2.2.2 = t4 at *
  generalize qE r p [] = QE at *
  generalize PLX r p = PL at *
  generalize GSX r p = GS at *
  generalize chk8 r = CE at *
  have HL3 := Lib.hid hl3
  have HB0 := Lib.hid hB0
  have HBK := Lib.hid hBK
  clear hl3 hB0 hBK hoA3 hoA hq hx1 hx2 hx3 hx4 hrb hr4 hCP hG3 hG2 g2 b02 b0 g00 m0 m1 m2 l0 hat HCP HFA hrv
  change Code.wp _ _ _ _ (w3.alloc (.cells #[.slice o.ra o.racers.length o.rc, .slice o.pa o.pools.length o.pc, .slice o.ta o.protests.length o.tc] 26))
  obtain ⟨K, hK⟩ : ∃ K, K = w3.heap.size := ⟨_, rfl⟩
  rw [← hK] at HBK ⊢
  clear hK
  generalize w3.alloc (.cells #[.slice o.ra o.racers.length o.rc, .slice o.pa o.pools.length o.pc, .slice o.ta o.protests.length o.tc] 26) = W4 at *
  have g0 : G W4 W4 := G.rf _
  have m0 := (HBK.out.keep g0).cell 0
  have m1 := (HBK.out.keep g0).cell 1
  have m2 := (HBK.out.keep g0).cell 2
  have l0 := (HBK.out.keep g0).lt
  go_upto_region 5 with (go_at_call 17; refine (HC17.out _ g0).mono ?_; rintro e v0 ⟨hG0, rfl⟩)
  clear m0 m1 m2 l0
  have HK1a := Lib.hid (Blk.new v0 33 #[.int .i64 t1, .int .i64 t2, .int .i64 t3, .int .i64 t4])
  have g1 := (g0.t hG0).a (.cells #[.int .i64 t1, .int .i64 t2, .int .i64 t3, .int .i64 t4] 33)
  change Code.wp _ _ _ _ (v0.alloc (.cells #[.int .i64 t1, .int .i64 t2, .int .i64 t3, .int .i64 t4] 33))
  obtain ⟨K1, hK1⟩ : ∃ K1, K1 = v0.heap.size := ⟨_, rfl⟩
  rw [← hK1] at HK1a ⊢
  clear hK1
  generalize v0.alloc (.cells #[.int .i64 t1, .int .i64 t2, .int .i64 t3, .int .i64 t4] 33) = W5 at *
  clear hG0
  have m0 := (HB0.out.keep g1).cell 0
  have m1 := (HB0.out.keep g1).cell 1
  have m2 := (HB0.out.keep g1).cell 2
  have l0 := (HB0.out.keep g1).lt
  go_upto_region 6 with (go_at_call 31; refine (HC31.out _ g1).mono ?_; rintro e v1 ⟨hG1, rfl⟩)
  clear m0 m1 m2 l0
  have HK2a := Lib.hid (Blk.new v1 33 #[.int .i64 t1, .int .i64 t2, .int .i64 t3, .int .i64 t4])
  have ga1 := hG1.a (.cells #[.int .i64 t1, .int .i64 t2, .int .i64 t3, .int .i64 t4] 33)
  have g2 := g1.t ga1
  have HK1b := Lib.hid (HK1a.out.keep ga1)
  change Code.wp _ _ _ _ (v1.alloc (.cells #[.int .i64 t1, .int .i64 t2, .int .i64 t3, .int .i64 t4] 33))
  obtain ⟨K2, hK2⟩ : ∃ K2, K2 = v1.heap.size := ⟨_, rfl⟩
  rw [← hK2] at HK2a ⊢
  clear hK2
  generalize v1.alloc (.cells #[.int .i64 t1, .int .i64 t2, .int .i64 t3, .int .i64 t4] 33) = W6 at *
  clear hG1 ga1 HK1a g1
  have m0 := (HBK.out.keep g2).cell 0
  have m1 := (HBK.out.keep g2).cell 1
  have m2 := (HBK.out.keep g2).cell 2
  have l0 := (HBK.out.keep g2).lt
  go_upto_region 7 with (go_at_call 22; refine (HC22.out _ g2).mono ?_; rintro e v2 ⟨hG2, a1, c1, rfl, hi1⟩)
  clear m0 m1 m2 l0
  have g3 := g2.t hG2
  have m0 := (HB0.out.keep g3).cell 0
  have m1 := (HB0.out.keep g3).cell 1
  have m2 := (HB0.out.keep g3).cell 2
  have l0 := (HB0.out.keep g3).lt
  go_upto_region 8 with (go_at_call 32; refine (HC32.out _ g3).mono ?_; rintro e v3 ⟨hG3, a2, c2, rfl, hi2⟩)
  clear m0 m1 m2 l0
  have g4 := g3.t hG3
  have m0 := (HBK.out.keep g4).cell 0
  have m1 := (HBK.out.keep g4).cell 1
  have m2 := (HBK.out.keep g4).cell 2
  have l0 := (HBK.out.keep g4).lt
  go_upto_region 9 with (go_at_call 21; refine (HC21.out _ g4).mono ?_; rintro e v4 ⟨hG4, b1, d1, rfl, hj1⟩)
  clear m0 m1 m2 l0
  have g5 := g4.t hG4
  have m0 := (HB0.out.keep g5).cell 0
  have m1 := (HB0.out.keep g5).cell 1
  have m2 := (HB0.out.keep g5).cell 2
  have l0 := (HB0.out.keep g5).lt
  go_upto_region 10 with (go_at_call 33; refine (HC33.out _ g5).mono ?_; rintro e v5 ⟨hG5, b2, d2, rfl, hj2⟩)
  clear m0 m1 m2 l0
  have g6 := g5.t hG5
  have h26 := ((hG2.t hG3).t hG4).t hG5
  have HKA := Lib.hid (HK1b.out.keep h26)
  have HKB := Lib.hid (HK2a.out.keep h26)
  have HI1 := Lib.hid (hi1.below ((hG3.t hG4).t hG5))
  have HI2 := Lib.hid (hi2.below (hG4.t hG5))
  have HJ1 := Lib.hid (hj1.keep hG5)
  have HJ2 := Lib.hid hj2
  clear hG2 hG3 hG4 hG5 hi1 hi2 hj1 hj2 h26 HK1b HK2a g0 g2 g3 g4 g5 HC17 HC31 HC22 HC32 HC21 HC33
  refine wp_region_Y (S := fun W' => G v5 W') 43 44 rfl (by kernel_rfl) (G.rf _).d (fun hS => ?_)
  have ga := (G.rf v5).d
  generalize v5.drew = WD at *
  change wpAnyY _ _ opsE10 _ _ 43 44 #[false, false, false, false, false, false, false, false, false, false, false, false, false, false, false, false, false, false, false, false, false, false, false, false, false, false, false, false, false, false, false, false, false, false, false, false, false, false, false, false, false, false, false, false] _ _
  refine wpAnyY_takeC (v := ?_) [] rE10_0 rE10o_0 (fun _ _ _ h => h) (Or.inl ⟨by kernel_rfl, ?_⟩) hS ?_
  rotate_left
  · intro w' hSw; have s0 := (HBK.out.keep (g6.t hSw)).cell 0; have s1 := (HBK.out.keep (g6.t hSw)).cell 1; have s2 := (HBK.out.keep (g6.t hSw)).cell 2; have s3 := (HBK.out.keep (g6.t hSw)).lt; go_simp; with_reducible rfl
  try simp only [Act.put, List.getElem_toArray, List.getElem_cons_zero, List.getElem_cons_succ, List.setIfInBounds_toArray, List.set_cons_zero, List.set_cons_succ]
  refine wpAnyY_takeC (v := ?_) [] rE10_2 rE10o_2 (fun _ _ _ h => h) (Or.inl ⟨by kernel_rfl, ?_⟩) hS ?_
  rotate_left
  · intro w' hSw; have s0 := (HB0.out.keep (g6.t hSw)).cell 0; have s1 := (HB0.out.keep (g6.t hSw)).cell 1; have s2 := (HB0.out.keep (g6.t hSw)).cell 2; have s3 := (HB0.out.keep (g6.t hSw)).lt; go_simp; with_reducible rfl
  try simp only [Act.put, List.getElem_toArray, List.getElem_cons_zero, List.getElem_cons_succ, List.setIfInBounds_toArray, List.set_cons_zero, List.set_cons_succ]
  refine wpAnyY_oneSWC rE10_1 rE10o_1 (by kernel_rfl) (fun K1 hK1 => ?_)
  go_simp
  refine (HC34.out _ (g6.t ga)).mono ?_
  rintro e w1 ⟨rfl, hH1⟩
  replace ga := ga.t hH1
  clear hH1
  refine hK1.out _ _ ga (fun hS => ?_)
  clear hK1
  try simp only [Act.put, List.getElem_toArray, List.getElem_cons_zero, List.getElem_cons_succ, List.setIfInBounds_toArray, List.set_cons_zero, List.set_cons_succ]
  refine wpAnyY_oneSWC rE10_3 rE10o_3 (by kernel_rfl) (fun K3 hK3 => ?_)
  go_simp
  refine (HC14.out _ (g6.t ga)).mono ?_
  rintro e w1 ⟨rfl, hH1⟩
  replace ga := ga.t hH1
  clear hH1
  refine hK3.out _ _ ga (fun hS => ?_)
  clear hK3
  try simp only [Act.put, List.getElem_toArray, List.getElem_cons_zero, List.getElem_cons_succ, List.setIfInBounds_toArray, List.set_cons_zero, List.set_cons_succ]
  refine wpAnyY_takeC (v := ?_) [] rE10_4 rE10o_4 (fun _ _ _ h => h) (Or.inl ⟨by kernel_rfl, ?_⟩) hS ?_
  rotate_left
  · intro w' hSw; go_simp; with_reducible rfl
  try simp only [Act.put, List.getElem_toArray, List.getElem_cons_zero, List.getElem_cons_succ, List.setIfInBounds_toArray, List.set_cons_zero, List.set_cons_succ]
  refine wpAnyY_takeC (v := ?_) [] rE10_5 rE10o_5 (fun _ _ _ h => h) (Or.inl ⟨by kernel_rfl, ?_⟩) hS ?_
  rotate_left
  · intro w' hSw; go_simp; with_reducible rfl
  try simp only [Act.put, List.getElem_toArray, List.getElem_cons_zero, List.getElem_cons_succ, List.setIfInBounds_toArray, List.set_cons_zero, List.set_cons_succ]
  refine wpAnyY_takeC (v := ?_) [] rE10_6 rE10o_6 (fun _ _ _ h => h) (Or.inl ⟨by kernel_rfl, ?_⟩) hS ?_
  rotate_left
  · intro w' hSw; have s0 := (HKA.out.keep hSw).cell 0; have s1 := (HKA.out.keep hSw).cell 1; have s2 := (HKA.out.keep hSw).cell 2; have s3 := (HKA.out.keep hSw).cell 3; have s4 := (HKA.out.keep hSw).lt; go_simp; with_reducible rfl
  try simp only [Act.put, List.getElem_toArray, List.getElem_cons_zero, List.getElem_cons_succ, List.setIfInBounds_toArray, List.set_cons_zero, List.set_cons_succ]
  refine wpAnyY_takeC (v := ?_) [] rE10_7 rE10o_7 (fun _ _ _ h => h) (Or.inl ⟨by kernel_rfl, ?_⟩) hS ?_
  rotate_left
  · intro w' hSw; have s0 := (HKB.out.keep hSw).cell 0; have s1 := (HKB.out.keep hSw).cell 1; have s2 := (HKB.out.keep hSw).cell 2; have s3 := (HKB.out.keep hSw).cell 3; have s4 := (HKB.out.keep hSw).lt; go_simp; with_reducible rfl
  try simp only [Act.put, List.getElem_toArray, List.getElem_cons_zero, List.getElem_cons_succ, List.setIfInBounds_toArray, List.set_cons_zero, List.set_cons_succ]
  refine wpAnyY_takeC (v := ?_) [] rE10_8 rE10o_8 (fun _ _ _ h => h) (Or.inl ⟨by kernel_rfl, ?_⟩) hS ?_
  rotate_left
  · intro w' hSw; go_simp; with_reducible rfl
  try simp only [Act.put, List.getElem_toArray, List.getElem_cons_zero, List.getElem_cons_succ, List.setIfInBounds_toArray, List.set_cons_zero, List.set_cons_succ]
  refine wpAnyY_takeC (v := ?_) [] rE10_9 rE10o_9 (fun _ _ _ h => h) (Or.inl ⟨by kernel_rfl, ?_⟩) hS ?_
  rotate_left
  · intro w' hSw; go_simp; with_reducible rfl
  try simp only [Act.put, List.getElem_toArray, List.getElem_cons_zero, List.getElem_cons_succ, List.setIfInBounds_toArray, List.set_cons_zero, List.set_cons_succ]
  refine wpAnyY_takeC (v := ?_) [] rE10_10 rE10o_10 (fun _ _ _ h => h) (Or.inl ⟨by kernel_rfl, ?_⟩) hS ?_
  rotate_left
  · intro w' hSw; go_simp; with_reducible rfl
  try simp only [Act.put, List.getElem_toArray, List.getElem_cons_zero, List.getElem_cons_succ, List.setIfInBounds_toArray, List.set_cons_zero, List.set_cons_succ]
  refine wpAnyY_takeC (v := ?_) [] rE10_11 rE10o_11 (fun _ _ _ h => h) (Or.inl ⟨by kernel_rfl, ?_⟩) hS ?_
  rotate_left
  · intro w' hSw; go_simp; with_reducible rfl
  try simp only [Act.put, List.getElem_toArray, List.getElem_cons_zero, List.getElem_cons_succ, List.setIfInBounds_toArray, List.set_cons_zero, List.set_cons_succ]
  refine wpAnyY_takeC (v := ?_) [] rE10_12 rE10o_12 (fun _ _ _ h => h) (Or.inl ⟨by kernel_rfl, ?_⟩) hS ?_
  rotate_left
  · intro w' hSw; go_simp; with_reducible rfl
  try simp only [Act.put, List.getElem_toArray, List.getElem_cons_zero, List.getElem_cons_succ, List.setIfInBounds_toArray, List.set_cons_zero, List.set_cons_succ]
  refine wpAnyY_takeC (v := ?_) [] rE10_13 rE10o_13 (fun _ _ _ h => h) (Or.inl ⟨by kernel_rfl, ?_⟩) hS ?_
  rotate_left
  · intro w' hSw; go_simp; with_reducible rfl
  try simp only [Act.put, List.getElem_toArray, List.getElem_cons_zero, List.getElem_cons_succ, List.setIfInBounds_toArray, List.set_cons_zero, List.set_cons_succ]
  refine wpAnyY_takeC (v := ?_) [] rE10_14 rE10o_14 (fun _ _ _ h => h) (Or.inl ⟨by kernel_rfl, ?_⟩) hS ?_
  rotate_left
  · intro w' hSw; go_simp; with_reducible rfl
  try simp only [Act.put, List.getElem_toArray, List.getElem_cons_zero, List.getElem_cons_succ, List.setIfInBounds_toArray, List.set_cons_zero, List.set_cons_succ]
  refine wpAnyY_takeC (v := ?_) [] rE10_15 rE10o_15 (fun _ _ _ h => h) (Or.inl ⟨by kernel_rfl, ?_⟩) hS ?_
  rotate_left
  · intro w' hSw; go_simp; with_reducible rfl
  try simp only [Act.put, List.getElem_toArray, List.getElem_cons_zero, List.getElem_cons_succ, List.setIfInBounds_toArray, List.set_cons_zero, List.set_cons_succ]
  refine wpAnyY_takeC (v := ?_) [] rE10_16 rE10o_16 (fun _ _ _ h => h) (Or.inl ⟨by kernel_rfl, ?_⟩) hS ?_
  rotate_left
  · intro w' hSw; go_simp; with_reducible rfl
  try simp only [Act.put, List.getElem_toArray, List.getElem_cons_zero, List.getElem_cons_succ, List.setIfInBounds_toArray, List.set_cons_zero, List.set_cons_succ]
  refine wpAnyY_takeC (v := ?_) [] rE10_17 rE10o_17 (fun _ _ _ h => h) (Or.inl ⟨by kernel_rfl, ?_⟩) hS ?_
  rotate_left
  · intro w' hSw; go_simp; with_reducible rfl
  try simp only [Act.put, List.getElem_toArray, List.getElem_cons_zero, List.getElem_cons_succ, List.setIfInBounds_toArray, List.set_cons_zero, List.set_cons_succ]
  refine wpAnyY_oneSWC rE10_18 rE10o_18 (by kernel_rfl) (fun K18 hK18 => ?_)
  go_simp
  refine (same35_any PL a1 a2 c1 c2 _ (HI1.out.below ga) (HI2.out.below ga) hl1).mono ?_
  rintro e w1 ⟨rfl, hH1⟩
  replace ga := ga.t hH1
  clear hH1
  refine hK18.out _ _ ga (fun hS => ?_)
  clear hK18
  try simp only [Act.put, List.getElem_toArray, List.getElem_cons_zero, List.getElem_cons_succ, List.setIfInBounds_toArray, List.set_cons_zero, List.set_cons_succ]
  refine wpAnyY_takeC (v := ?_) [] rE10_19 rE10o_19 (fun _ _ _ h => h) (Or.inl ⟨by kernel_rfl, ?_⟩) hS ?_
  rotate_left
  · intro w' hSw; go_simp; with_reducible rfl
  try simp only [Act.put, List.getElem_toArray, List.getElem_cons_zero, List.getElem_cons_succ, List.setIfInBounds_toArray, List.set_cons_zero, List.set_cons_succ]
  refine wpAnyY_takeC (v := ?_) [] rE10_20 rE10o_20 (fun _ _ _ h => h) (Or.inl ⟨by kernel_rfl, ?_⟩) hS ?_
  rotate_left
  · intro w' hSw; go_simp; with_reducible rfl
  try simp only [Act.put, List.getElem_toArray, List.getElem_cons_zero, List.getElem_cons_succ, List.setIfInBounds_toArray, List.set_cons_zero, List.set_cons_succ]
  refine wpAnyY_takeC (v := ?_) [] rE10_21 rE10o_21 (fun _ _ _ h => h) (Or.inl ⟨by kernel_rfl, ?_⟩) hS ?_
  rotate_left
  · intro w' hSw; go_simp; with_reducible rfl
  try simp only [Act.put, List.getElem_toArray, List.getElem_cons_zero, List.getElem_cons_succ, List.setIfInBounds_toArray, List.set_cons_zero, List.set_cons_succ]
  refine wpAnyY_takeC (v := ?_) [] rE10_22 rE10o_22 (fun _ _ _ h => h) (Or.inl ⟨by kernel_rfl, ?_⟩) hS ?_
  rotate_left
  · intro w' hSw; go_simp; with_reducible rfl
  try simp only [Act.put, List.getElem_toArray, List.getElem_cons_zero, List.getElem_cons_succ, List.setIfInBounds_toArray, List.set_cons_zero, List.set_cons_succ]
  refine wpAnyY_takeC (v := ?_) [] rE10_23 rE10o_23 (fun _ _ _ h => h) (Or.inl ⟨by kernel_rfl, ?_⟩) hS ?_
  rotate_left
  · intro w' hSw; go_simp; with_reducible rfl
  try simp only [Act.put, List.getElem_toArray, List.getElem_cons_zero, List.getElem_cons_succ, List.setIfInBounds_toArray, List.set_cons_zero, List.set_cons_succ]
  refine wpAnyY_takeC (v := ?_) [] rE10_24 rE10o_24 (fun _ _ _ h => h) (Or.inl ⟨by kernel_rfl, ?_⟩) hS ?_
  rotate_left
  · intro w' hSw; go_simp; with_reducible rfl
  try simp only [Act.put, List.getElem_toArray, List.getElem_cons_zero, List.getElem_cons_succ, List.setIfInBounds_toArray, List.set_cons_zero, List.set_cons_succ]
  refine wpAnyY_takeC (v := ?_) [] rE10_25 rE10o_25 (fun _ _ _ h => h) (Or.inl ⟨by kernel_rfl, ?_⟩) hS ?_
  rotate_left
  · intro w' hSw; go_simp; with_reducible rfl
  try simp only [Act.put, List.getElem_toArray, List.getElem_cons_zero, List.getElem_cons_succ, List.setIfInBounds_toArray, List.set_cons_zero, List.set_cons_succ]
  refine wpAnyY_takeC (v := ?_) [] rE10_26 rE10o_26 (fun _ _ _ h => h) (Or.inl ⟨by kernel_rfl, ?_⟩) hS ?_
  rotate_left
  · intro w' hSw; go_simp; with_reducible rfl
  try simp only [Act.put, List.getElem_toArray, List.getElem_cons_zero, List.getElem_cons_succ, List.setIfInBounds_toArray, List.set_cons_zero, List.set_cons_succ]
  refine wpAnyY_takeC (v := ?_) [] rE10_27 rE10o_27 (fun _ _ _ h => h) (Or.inl ⟨by kernel_rfl, ?_⟩) hS ?_
  rotate_left
  · intro w' hSw; go_simp; with_reducible rfl
  try simp only [Act.put, List.getElem_toArray, List.getElem_cons_zero, List.getElem_cons_succ, List.setIfInBounds_toArray, List.set_cons_zero, List.set_cons_succ]
  refine wpAnyY_oneSWC rE10_28 rE10o_28 (by kernel_rfl) (fun K28 hK28 => ?_)
  go_simp
  refine (same36_any GS b1 b2 d1 d2 _ (HJ1.out.keep ga) (HJ2.out.keep ga) hl2 HL3.out).mono ?_
  rintro e w1 ⟨rfl, hH1⟩
  replace ga := ga.t hH1
  clear hH1
  refine hK28.out _ _ ga (fun hS => ?_)
  clear hK28
  try simp only [Act.put, List.getElem_toArray, List.getElem_cons_zero, List.getElem_cons_succ, List.setIfInBounds_toArray, List.set_cons_zero, List.set_cons_succ]
  refine wpAnyY_takeC (v := ?_) [] rE10_29 rE10o_29 (fun _ _ _ h => h) (Or.inl ⟨by kernel_rfl, ?_⟩) hS ?_
  rotate_left
  · intro w' hSw; go_simp; with_reducible rfl
  try simp only [Act.put, List.getElem_toArray, List.getElem_cons_zero, List.getElem_cons_succ, List.setIfInBounds_toArray, List.set_cons_zero, List.set_cons_succ]
  refine wpAnyY_takeC (v := ?_) [] rE10_30 rE10o_30 (fun _ _ _ h => h) (Or.inl ⟨by kernel_rfl, ?_⟩) hS ?_
  rotate_left
  · intro w' hSw; go_simp; with_reducible rfl
  try simp only [Act.put, List.getElem_toArray, List.getElem_cons_zero, List.getElem_cons_succ, List.setIfInBounds_toArray, List.set_cons_zero, List.set_cons_succ]
  refine wpAnyY_takeC (v := ?_) [] rE10_31 rE10o_31 (fun _ _ _ h => h) (Or.inl ⟨by kernel_rfl, ?_⟩) hS ?_
  rotate_left
  · intro w' hSw; go_simp; with_reducible rfl
  try simp only [Act.put, List.getElem_toArray, List.getElem_cons_zero, List.getElem_cons_succ, List.setIfInBounds_toArray, List.set_cons_zero, List.set_cons_succ]
  refine wpAnyY_takeC (v := ?_) [] rE10_32 rE10o_32 (fun _ _ _ h => h) (Or.inl ⟨by kernel_rfl, ?_⟩) hS ?_
  rotate_left
  · intro w' hSw; go_simp; with_reducible rfl
  try simp only [Act.put, List.getElem_toArray, List.getElem_cons_zero, List.getElem_cons_succ, List.setIfInBounds_toArray, List.set_cons_zero, List.set_cons_succ]
  refine wpAnyY_takeC (v := ?_) [] rE10_33 rE10o_33 (fun _ _ _ h => h) (Or.inl ⟨by kernel_rfl, ?_⟩) hS ?_
  rotate_left
  · intro w' hSw; go_simp; with_reducible rfl
  try simp only [Act.put, List.getElem_toArray, List.getElem_cons_zero, List.getElem_cons_succ, List.setIfInBounds_toArray, List.set_cons_zero, List.set_cons_succ]
  refine wpAnyY_takeC (v := ?_) [] rE10_34 rE10o_34 (fun _ _ _ h => h) (Or.inl ⟨by kernel_rfl, ?_⟩) hS ?_
  rotate_left
  · intro w' hSw; go_simp; with_reducible rfl
  try simp only [Act.put, List.getElem_toArray, List.getElem_cons_zero, List.getElem_cons_succ, List.setIfInBounds_toArray, List.set_cons_zero, List.set_cons_succ]
  refine wpAnyY_takeC (v := ?_) [] rE10_35 rE10o_35 (fun _ _ _ h => h) (Or.inl ⟨by kernel_rfl, ?_⟩) hS ?_
  rotate_left
  · intro w' hSw; go_simp; with_reducible rfl
  try simp only [Act.put, List.getElem_toArray, List.getElem_cons_zero, List.getElem_cons_succ, List.setIfInBounds_toArray, List.set_cons_zero, List.set_cons_succ]
  refine wpAnyY_takeC (v := ?_) [] rE10_36 rE10o_36 (fun _ _ _ h => h) (Or.inl ⟨by kernel_rfl, ?_⟩) hS ?_
  rotate_left
  · intro w' hSw; have s0 := (HBK.out.keep (g6.t hSw)).cell 0; have s1 := (HBK.out.keep (g6.t hSw)).cell 1; have s2 := (HBK.out.keep (g6.t hSw)).cell 2; have s3 := (HBK.out.keep (g6.t hSw)).lt; go_simp; with_reducible rfl
  try simp only [Act.put, List.getElem_toArray, List.getElem_cons_zero, List.getElem_cons_succ, List.setIfInBounds_toArray, List.set_cons_zero, List.set_cons_succ]
  refine wpAnyY_takeC (v := ?_) [] rE10_37 rE10o_37 (fun _ _ _ h => h) (Or.inl ⟨by kernel_rfl, ?_⟩) hS ?_
  rotate_left
  · intro w' hSw; have s0 := (HB0.out.keep (g6.t hSw)).cell 0; have s1 := (HB0.out.keep (g6.t hSw)).cell 1; have s2 := (HB0.out.keep (g6.t hSw)).cell 2; have s3 := (HB0.out.keep (g6.t hSw)).lt; go_simp; with_reducible rfl
  try simp only [Act.put, List.getElem_toArray, List.getElem_cons_zero, List.getElem_cons_succ, List.setIfInBounds_toArray, List.set_cons_zero, List.set_cons_succ]
  refine wpAnyY_oneSWC rE10_38 rE10o_38 (by kernel_rfl) (fun K38 hK38 => ?_)
  go_simp
  refine (HC37.out _ (g6.t ga)).mono ?_
  rintro e w1 ⟨rfl, hH1⟩
  replace ga := ga.t hH1
  clear hH1
  refine hK38.out _ _ ga (fun hS => ?_)
  clear hK38
  try simp only [Act.put, List.getElem_toArray, List.getElem_cons_zero, List.getElem_cons_succ, List.setIfInBounds_toArray, List.set_cons_zero, List.set_cons_succ]
  refine wpAnyY_takeC (v := ?_) [] rE10_39 rE10o_39 (fun _ _ _ h => h) (Or.inl ⟨by kernel_rfl, ?_⟩) hS ?_
  rotate_left
  · intro w' hSw; go_simp; with_reducible rfl
  try simp only [Act.put, List.getElem_toArray, List.getElem_cons_zero, List.getElem_cons_succ, List.setIfInBounds_toArray, List.set_cons_zero, List.set_cons_succ]
  refine wpAnyY_takeC (v := ?_) [] rE10_40 rE10o_40 (fun _ _ _ h => h) (Or.inl ⟨by kernel_rfl, ?_⟩) hS ?_
  rotate_left
  · intro w' hSw; go_simp; with_reducible rfl
  try simp only [Act.put, List.getElem_toArray, List.getElem_cons_zero, List.getElem_cons_succ, List.setIfInBounds_toArray, List.set_cons_zero, List.set_cons_succ]
  refine wpAnyY_oneSWC rE10_41 rE10o_41 (by kernel_rfl) (fun K41 hK41 => ?_)
  go_simp
  refine (HWK.out _).mono ?_
  rintro e w1 ⟨rfl, hH1⟩
  replace ga := ga.t hH1
  clear hH1
  refine hK41.out _ _ ga (fun hS => ?_)
  clear hK41
  try simp only [Act.put, List.getElem_toArray, List.getElem_cons_zero, List.getElem_cons_succ, List.setIfInBounds_toArray, List.set_cons_zero, List.set_cons_succ]
  refine wpAnyY_takeC (v := ?_) [] rE10_42 rE10o_42 (fun _ _ _ h => h) (Or.inl ⟨by kernel_rfl, ?_⟩) hS ?_
  rotate_left
  · intro w' hSw; go_simp; with_reducible rfl
  try simp only [Act.put, List.getElem_toArray, List.getElem_cons_zero, List.getElem_cons_succ, List.setIfInBounds_toArray, List.set_cons_zero, List.set_cons_succ]
  refine wpAnyY_oneW (i := 43) (by kernel_rfl) rE10o_43 (by kernel_rfl) (by kernel_rfl) (fun K43 hK43 => ?_)
  go_simp
  refine hK43.out _ _ ?_
  clear hK43
  try simp only [Act.put, List.getElem_toArray, List.getElem_cons_zero, List.getElem_cons_succ, List.setIfInBounds_toArray, List.set_cons_zero, List.set_cons_succ]
  refine wpAnyY_done (by kernel_rfl) ?_ _
  have gz := g04.t (g6.t ga)
  clear hS
  go_wp2_with fail
  first | exact ⟨rfl, gz⟩ | (go_ret; exact ⟨rfl, gz⟩)
end Go.Proofs.YtnkmcoljijmgpaaGreat

