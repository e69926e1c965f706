import Derived.Below
import Derived.BigQuiet
import Derived.Deep.AppendLies
import Derived.Deep.Draws
import Derived.Deep.QuietTactic
import Derived.Deep.RegionHeld
import Derived.Deep.Slices
import Derived.Ground.Names2Prog
import Derived.Ground.SlsfProg
import Derived.Ground.SlsoProg
import Derived.IntWalk
import Derived.Laws.AppendOwn
import Derived.Laws.AppendOwnNone
import Derived.Laws.Bits128
import Derived.Laws.OwnMore
import Derived.Laws.Rows
import Derived.Laws.StructEq
import Derived.Lib.Hide
import Derived.Lib.SlKeysI
import Derived.Lib.SliceRun
import Derived.Lib.SmallJoins
import Derived.LoopIn
import Derived.LoopNIn
import Derived.Maps.RangeWalk
import Derived.OpenShut
import Derived.OrdersHeld
import Derived.OrdersIn
import Derived.Outline
import Derived.OwnWalkIn
import Derived.ProofKit
import Derived.RangeFuncBound
import Derived.RangeFuncCalls
import Derived.RangeFuncLeaves
import Derived.RangeFuncNested
import Derived.Shelf.Abstract
import Derived.Shelf.GgSortFunc.InsertionK
import Derived.Shelf.RegionOpen
import Derived.Shelf.SlSortCmp.NoneTotal
import Derived.Shelf.SlSortCmp.WholeK
import Derived.Shelf.SlSorted.Search
import Derived.Shelf.Slices.Cells
import Derived.Shelf.Slices.CompactI
import Derived.Shelf.Slices.In.SortNone
import Derived.Shelf.Slices.SearchI
import Derived.Shelf.Small.Bits
import Derived.Shelf.Sort.Plain
import Derived.Shelf.Strconv.Itoa0
import Derived.Sort.Grow
import Derived.Sort.MapsRangeIn
import Derived.TacticsIn
import Derived.TacticsInMore
import Derived.Test.YtnkmcoljijmgpaaGreatProg
import Derived.WalkKit
import Derived.WalkSpells
import Derived.Test.YtnkmcoljijmgpaaGreatS2
set_option linter.unusedSimpArgs false
set_option linter.unusedVariables false
namespace Go.Proofs.YtnkmcoljijmgpaaGreat
open Go.RowKit Go.Shelf Go.Sort Go.Maps
attribute [local go_sem] Oper.semAt_some
theorem own_won {W : World} {m : Nat} {ps : List (Int × Int)} {b s n : Nat} {e : TypeId} {v : Value} {xs : List Value} (hw : Won W m ps) (h : W.ownsRow b e s v n xs) : some m ≠ v.ownBlock := by
  rcases h.2 with ⟨rfl, _⟩ | ⟨g, cap, cur, rfl, _, hg, _⟩
  · exact fun e => by cases e
  · exact fun e => by
      have e2 : m = g := by injection e
      exact hw.ne (show Blk W g _ cur from hg) e2.symm
theorem Won.grown {W W' : World} {m : Nat} {ps : List (Int × Int)} {row : Option Nat} (h : Won W m ps) (hg : W.grownBy W' row) (hne : some m ≠ row) : Won W' m ps := by
  obtain ⟨D, h1, h2⟩ := h
  exact ⟨D, h1.kept hg hne, h2⟩
set_option maxRecDepth 100000 in
set_option maxHeartbeats 8000000 in
theorem prizes_any (f : Fu) (w : World) (h : GF f w) : Calls Tryz.prog 52 #[.agg f.v] w (PzPost w (prizesL f)) := by
  have HW := Lib.hid (fun (W : World) (hW : G w W) => (h.keep hW).won [] none 0 (.inl rfl) (by simp))
  have HR := Lib.hid (fun (W : World) (hW : G w W) (m : Nat) (hm : Won W m (wonL f [])) => (h.keep hW).rest [] m hm)
  have hfa := h.facts []
  have HF := Lib.hid hfa
  have hrow := h.row
  have HBD := Lib.hid h.bd
  have h12 := h.B.many
  have hrl : 0 ≤ resI f [] ∧ resI f [] ≤ 1200000 := by unfold resI; have a := hfa.le; have b := hfa.bound; have c := hfa.pos; omega
  have hpl := prizesL_len f
  have HTK := Lib.hid (fun (i : Nat) (hi : i < f.rs.length) => prizesL_take f hi)
  have HWB : Hid (∀ b, 0 ≤ wonAt (wonL f []) b ∧ wonAt (wonL f []) b ≤ 1200000) := fun b => ⟨wonAt_nonneg hfa.nonneg b, by have a := wonAt_le hfa.nonneg b; have b1 := hfa.le; have b2 := hfa.bound; omega⟩
  have HP : Hid (∀ w' v, w'.ownsRow w.heap.size 40 3 v (prizesL f).length (cv Pz.v (prizesL f)) → G w w' → PzPost w (prizesL f) (.returned v) w') := fun w' v a b => ⟨v, rfl, a, b⟩
  generalize PzPost w (prizesL f) = PP at *
  unfold resI at hrl HTK
  generalize lefI f - sndS (wonL f []) = RI at *
  generalize prizesL f = PL at *
  generalize wonL f [] = WL at *
  clear h hfa HF
  obtain ⟨⟨ystake, ycut, ykind, yta, ytc, ytable, yquota, yfirst⟩, fa, fc, rs, pa, pc, ps⟩ := f
  unfold Fu.v at *
  dsimp only at *
  have g0 : G w (w.alloc (.cells #[.int .i64 ystake, .int .i64 ycut, .int .i64 ykind, .slice yta ytable.length ytc, .int .i64 yquota, .bool yfirst, .slice fa rs.length fc, .slice pa ps.length pc] 85)) := (G.rf _).a _
  have b0 : Blk (w.alloc (.cells #[.int .i64 ystake, .int .i64 ycut, .int .i64 ykind, .slice yta ytable.length ytc, .int .i64 yquota, .bool yfirst, .slice fa rs.length fc, .slice pa ps.length pc] 85)) w.heap.size 85 #[.int .i64 ystake, .int .i64 ycut, .int .i64 ykind, .slice yta ytable.length ytc, .int .i64 yquota, .bool yfirst, .slice fa rs.length fc, .slice pa ps.length pc] := Blk.new _ _ _
  go_enter Tryz.func52, Tryz.ntmps52
  go_upto_region 1 with fail
  change Code.wp _ _ _ _ (w.alloc (.cells #[.int .i64 ystake, .int .i64 ycut, .int .i64 ykind, .slice yta ytable.length ytc, .int .i64 yquota, .bool yfirst, .slice fa rs.length fc, .slice pa ps.length pc] 85))
  generalize w.alloc (.cells #[.int .i64 ystake, .int .i64 ycut, .int .i64 ykind, .slice yta ytable.length ytc, .int .i64 yquota, .bool yfirst, .slice fa rs.length fc, .slice pa ps.length pc] 85) = W1 at *
  have m0 := b0.cell 0
  have m1 := b0.cell 1
  have m2 := b0.cell 2
  have m3 := b0.cell 3
  have m4 := b0.cell 4
  have m5 := b0.cell 5
  have m6 := b0.cell 6
  have m7 := b0.cell 7
  have l0 := b0.lt
  go_upto_region 2 with (go_at_call 51; refine (HW.out _ g0).mono ?_; rintro e w2 ⟨m, rfl, hwon, hml, hG2⟩)
  clear m0 m1 m2 m3 m4 m5 m6 m7 l0 HW
  have g2 := g0.t hG2
  have b2 := b0.keep hG2
  clear b0 hG2 g0
  have hSk : ∀ W', G w2 W' → Blk W' w.heap.size 85 #[.int .i64 ystake, .int .i64 ycut, .int .i64 ykind, .slice yta ytable.length ytc, .int .i64 yquota, .bool yfirst, .slice fa rs.length fc, .slice pa ps.length pc] ∧ Won W' m WL := fun W' hW => ⟨b2.keep hW, hwon.keep hW⟩
  refine wp_region_Y (S := fun W' => Blk W' w.heap.size 85 #[.int .i64 ystake, .int .i64 ycut, .int .i64 ykind, .slice yta ytable.length ytc, .int .i64 yquota, .bool yfirst, .slice fa rs.length fc, .slice pa ps.length pc] ∧ Won W' m WL) 7 8 rfl (by kernel_rfl) (hSk _ (G.rf _).d) (fun hS => ?_)
  have ga := (G.rf w2).d
  refine wpAnyY_take (i := 0) (v := ?_) rfl (by kernel_rfl) (by kernel_rfl) (by kernel_rfl) (by kernel_rfl) (fun _ _ _ h => h) (Or.inl ⟨by kernel_rfl, ?_⟩) hS ?_
  rotate_left
  · intro w' hSw; have m0 := hSw.1.cell 0; have m1 := hSw.1.cell 1; have m2 := hSw.1.cell 2; have m3 := hSw.1.cell 3; have m4 := hSw.1.cell 4; have m5 := hSw.1.cell 5; have m6 := hSw.1.cell 6; have m7 := hSw.1.cell 7; have l0 := hSw.1.lt; go_simp; with_reducible rfl
  try simp only [Act.put, List.getElem_toArray, List.getElem_cons_zero, List.getElem_cons_succ, List.setIfInBounds_toArray, List.set_cons_zero, List.set_cons_succ]
  refine wpAnyY_take (i := 1) (v := ?_) rfl (by kernel_rfl) (by kernel_rfl) (by kernel_rfl) (by kernel_rfl) (fun _ _ _ h => h) (Or.inl ⟨by kernel_rfl, ?_⟩) hS ?_
  rotate_left
  · intro w' hSw; go_simp; with_reducible rfl
  try simp only [Act.put, List.getElem_toArray, List.getElem_cons_zero, List.getElem_cons_succ, List.setIfInBounds_toArray, List.set_cons_zero, List.set_cons_succ]
  refine wpAnyY_take (i := 3) (v := ?_) rfl (by kernel_rfl) (by kernel_rfl) (by kernel_rfl) (by kernel_rfl) (fun _ _ _ h => h) (Or.inl ⟨by kernel_rfl, ?_⟩) hS ?_
  rotate_left
  · intro w' hSw; have l0 := hSw.1.lt; go_simp; with_reducible rfl
  try simp only [Act.put, List.getElem_toArray, List.getElem_cons_zero, List.getElem_cons_succ, List.setIfInBounds_toArray, List.set_cons_zero, List.set_cons_succ]
  refine wpAnyY_take (i := 4) (v := ?_) rfl (by kernel_rfl) (by kernel_rfl) (by kernel_rfl) (by kernel_rfl) (fun _ _ _ h => h) (Or.inl ⟨by kernel_rfl, ?_⟩) hS ?_
  rotate_left
  · intro w' hSw; have m6 := hSw.1.cell 6; have l0 := hSw.1.lt; go_simp; with_reducible rfl
  try simp only [Act.put, List.getElem_toArray, List.getElem_cons_zero, List.getElem_cons_succ, List.setIfInBounds_toArray, List.set_cons_zero, List.set_cons_succ]
  refine wpAnyY_take (i := 5) (v := ?_) rfl (by kernel_rfl) (by kernel_rfl) (by kernel_rfl) (by kernel_rfl) (fun _ _ _ h => h) (Or.inl ⟨by kernel_rfl, ?_⟩) hS ?_
  rotate_left
  · intro w' hSw; go_simp; with_reducible rfl
  try simp only [Act.put, List.getElem_toArray, List.getElem_cons_zero, List.getElem_cons_succ, List.setIfInBounds_toArray, List.set_cons_zero, List.set_cons_succ]
  refine wpAnyY_oneSW (i := 2) (by kernel_rfl) rfl (by kernel_rfl) (fun K2 hK2 => ?_)
  go_simp
  refine (HR.out _ (g2.t ga) m hS.2).mono ?_
  rintro e w3 ⟨rfl, hG3⟩
  replace ga := ga.t hG3
  refine hK2.out _ _ (hSk _ ga) (fun hS => ?_)
  clear hK2
  try simp only [Act.put, List.getElem_toArray, List.getElem_cons_zero, List.getElem_cons_succ, List.setIfInBounds_toArray, List.set_cons_zero, List.set_cons_succ]
  refine wpAnyY_oneSW (i := 6) (by kernel_rfl) rfl (by kernel_rfl) (fun K6 hK6 => ?_)
  go_simp
  refine (shares_any _ _ _).mono ?_
  rintro e w4 ⟨rfl, hA, hBk, hG4⟩
  replace ga := ga.t hG4
  refine hK6.out _ _ (hSk _ ga) (fun hS => ?_)
  clear hK6
  try simp only [Act.put, List.getElem_toArray, List.getElem_cons_zero, List.getElem_cons_succ, List.setIfInBounds_toArray, List.set_cons_zero, List.set_cons_succ]
  refine wpAnyY_oneW (i := 7) (by kernel_rfl) rfl (by kernel_rfl) (by kernel_rfl) (fun K7 hK7 => ?_)
  go_simp
  refine hK7.out _ _ ?_
  clear hK7
  try simp only [Act.put, List.getElem_toArray, List.getElem_cons_zero, List.getElem_cons_succ, List.setIfInBounds_toArray, List.set_cons_zero, List.set_cons_succ]
  refine wpAnyY_done (by kernel_rfl) ?_ _
  have g4 := g2.t ga
  have b4 := hS.1
  have hw4 := hS.2
  obtain ⟨kA, hkA⟩ : ∃ k, k = w3.heap.size := ⟨_, rfl⟩
  have hkl : w.heap.size ≤ kA := by rw [hkA]; exact Nat.le_trans (Nat.le_of_lt b2.lt) (show w2.heap.size ≤ w3.heap.size from hG3.size)
  rw [← hkA] at hA hBk ⊢
  clear hkA hS hSk ga hG3 hG4 b2 hwon g2 HR
  have m6 := b4.cell 6
  have l0 := b4.lt
  go_wp2_with fail
  clear m6 l0
  have HPL0 : Hid (PL.take 0 = []) := by simp [Hid]
  have HRW := Lib.hid (hrow.below g4)
  clear hrow
  go_loopw [5, 20] (fun v i wr => ∃ k : Nat, k ≤ rs.length ∧ i = .int .i64 k ∧ Hid (wr.ownsRow w4.heap.size 40 3 v k (cv Pz.v (PL.take k))) ∧ G w4 wr) (fun _ i _ => rs.length - (intOf i).toNat)
  case atStart => exact ⟨0, Nat.zero_le _, rfl, by rw [HPL0.out]; exact World.ownsRow_nil _ _ _ _, G.rf _⟩
  case round =>
    obtain ⟨k, hk, rfl, HO, hG⟩ := hrel
    obtain ⟨wo, rfl⟩ : ∃ wo, wo = wr := ⟨_, rfl⟩
    obtain ⟨va, vc, rfl⟩ := own_slice HO.out
    by_cases hlt : k < rs.length
    · have hki : (k : Int) < rs.length := by omega
      rcases HRW.out with h | ⟨gr, ofr, rfl, hgr, hcell⟩
      · omega
      have lg := Nat.lt_of_lt_of_le hgr hG.size
      have hcl := fun r hr => ((bcellB hG).1 gr _ hgr).trans (hcell k hlt r hr)
      have HT2 := Lib.hid (HTK.out k hlt)
      have hbd : 0 ≤ (rs.getD k default).bird ∧ (rs.getD k default).bird ≤ 9999 := HBD.out _ (by rw [List.getD_eq_getElem?_getD, List.getElem?_eq_getElem hlt]; exact List.getElem_mem _)
      obtain ⟨y, hy⟩ : ∃ y, y = rs.getD k default := ⟨_, rfl⟩
      rw [← hy] at hcl HT2 hbd
      clear hy hcell
      obtain ⟨zbird, zowner, zrank, zday, zpa, zpc, zpools⟩ := y
      unfold Rc.v at hcl
      dsimp only at HT2 hbd
      have q0 : wo.cell? ⟨gr, ofr + k * 5, none⟩ = some (.int .i64 zbird) := hcl 0 (by omega)
      have q1 : wo.cell? ⟨gr, ofr + k * 5 + 1, none⟩ = some (.int .i64 zowner) := hcl 1 (by omega)
      have q2 : wo.cell? ⟨gr, ofr + k * 5 + 2, none⟩ = some (.int .i64 zrank) := hcl 2 (by omega)
      have q3 : wo.cell? ⟨gr, ofr + k * 5 + 3, none⟩ = some (.int .i64 zday) := hcl 3 (by omega)
      have q4 : wo.cell? ⟨gr, ofr + k * 5 + 4, none⟩ = some (.slice zpa zpools.length zpc) := hcl 4 (by omega)
      clear hcl
      go_upto_region 7 with fail
      have bx : Blk (wo.alloc (.cells #[.int .i64 zbird, .int .i64 zowner, .int .i64 zrank, .int .i64 zday, .slice zpa zpools.length zpc] 60)) wo.heap.size 60 #[.int .i64 zbird, .int .i64 zowner, .int .i64 zrank, .int .i64 zday, .slice zpa zpools.length zpc] := Blk.new _ _ _
      have gw := hG.a (.cells #[.int .i64 zbird, .int .i64 zowner, .int .i64 zrank, .int .i64 zday, .slice zpa zpools.length zpc] 60)
      have HO2 := Lib.hid (own_G HO.out ((G.rf wo).a (.cells #[.int .i64 zbird, .int .i64 zowner, .int .i64 zrank, .int .i64 zday, .slice zpa zpools.length zpc] 60)))
      have hgxl : w4.heap.size ≤ wo.heap.size := hG.size
      clear q0 q1 q2 q3 q4 lg hG HO
      change Code.wp _ _ _ _ (wo.alloc (.cells #[.int .i64 zbird, .int .i64 zowner, .int .i64 zrank, .int .i64 zday, .slice zpa zpools.length zpc] 60))
      obtain ⟨gx, hgx⟩ : ∃ gx, gx = wo.heap.size := ⟨_, rfl⟩
      rw [← hgx] at bx hgxl ⊢
      clear hgx
      generalize wo.alloc (.cells #[.int .i64 zbird, .int .i64 zowner, .int .i64 zrank, .int .i64 zday, .slice zpa zpools.length zpc] 60) = w5 at *
      have hSk : ∀ W', G w5 W' → Blk W' gx 60 #[.int .i64 zbird, .int .i64 zowner, .int .i64 zrank, .int .i64 zday, .slice zpa zpools.length zpc] ∧ Won W' m WL ∧ Blk W' kA 3 #[.int .i64 RI] ∧ Blk W' (kA + 1) 3 #[.int .i64 rs.length] := fun W' hW => ⟨bx.keep hW, hw4.keep (gw.t hW), hA.keep (gw.t hW), hBk.keep (gw.t hW)⟩
      refine wp_region_Y (S := fun W' => Blk W' gx 60 #[.int .i64 zbird, .int .i64 zowner, .int .i64 zrank, .int .i64 zday, .slice zpa zpools.length zpc] ∧ Won W' m WL ∧ Blk W' kA 3 #[.int .i64 RI] ∧ Blk W' (kA + 1) 3 #[.int .i64 rs.length]) 13 14 rfl (by kernel_rfl) (hSk _ (G.rf _).d) (fun hS => ?_)
      have ga := (G.rf w5).d
      refine wpAnyY_take (i := 0) (v := ?_) rfl (by kernel_rfl) (by kernel_rfl) (by kernel_rfl) (by kernel_rfl) (fun _ _ _ h => h) (Or.inl ⟨by kernel_rfl, ?_⟩) hS ?_
      rotate_left
      · intro w' hSw; go_simp; with_reducible rfl
      try simp only [Act.put, List.getElem_toArray, List.getElem_cons_zero, List.getElem_cons_succ, List.setIfInBounds_toArray, List.set_cons_zero, List.set_cons_succ]
      refine wpAnyY_take (i := 1) (v := ?_) rfl (by kernel_rfl) (by kernel_rfl) (by kernel_rfl) (by kernel_rfl) (fun _ _ _ h => h) (Or.inl ⟨by kernel_rfl, ?_⟩) hS ?_
      rotate_left
      · intro w' hSw; have ln := hSw.1.lt; go_simp; with_reducible rfl
      try simp only [Act.put, List.getElem_toArray, List.getElem_cons_zero, List.getElem_cons_succ, List.setIfInBounds_toArray, List.set_cons_zero, List.set_cons_succ]
      refine wpAnyY_take (i := 2) (v := ?_) rfl (by kernel_rfl) (by kernel_rfl) (by kernel_rfl) (by kernel_rfl) (fun _ _ _ h => h) (Or.inl ⟨by kernel_rfl, ?_⟩) hS ?_
      rotate_left
      · intro w' hSw; have n0 := hSw.1.cell 0; have ln := hSw.1.lt; go_simp; with_reducible rfl
      try simp only [Act.put, List.getElem_toArray, List.getElem_cons_zero, List.getElem_cons_succ, List.setIfInBounds_toArray, List.set_cons_zero, List.set_cons_succ]
      refine wpAnyY_take (i := 3) (v := ?_) rfl (by kernel_rfl) (by kernel_rfl) (by kernel_rfl) (by kernel_rfl) (fun _ _ _ h => h) (Or.inl ⟨by kernel_rfl, ?_⟩) hS ?_
      rotate_left
      · intro w' hSw; go_simp; with_reducible rfl
      try simp only [Act.put, List.getElem_toArray, List.getElem_cons_zero, List.getElem_cons_succ, List.setIfInBounds_toArray, List.set_cons_zero, List.set_cons_succ]
      refine wpAnyY_take (i := 4) (v := ?_) rfl (by kernel_rfl) (by kernel_rfl) (by kernel_rfl) (by kernel_rfl) (fun _ _ _ h => h) (Or.inl ⟨by kernel_rfl, ?_⟩) hS ?_
      rotate_left
      · intro w' hSw; have ln := hSw.1.lt; go_simp; with_reducible rfl
      try simp only [Act.put, List.getElem_toArray, List.getElem_cons_zero, List.getElem_cons_succ, List.setIfInBounds_toArray, List.set_cons_zero, List.set_cons_succ]
      refine wpAnyY_take (i := 5) (v := ?_) rfl (by kernel_rfl) (by kernel_rfl) (by kernel_rfl) (by kernel_rfl) (fun _ _ _ h => h) (Or.inl ⟨by kernel_rfl, ?_⟩) hS ?_
      rotate_left
      · intro w' hSw; have n0 := hSw.1.cell 0; have ln := hSw.1.lt; go_simp; with_reducible rfl
      try simp only [Act.put, List.getElem_toArray, List.getElem_cons_zero, List.getElem_cons_succ, List.setIfInBounds_toArray, List.set_cons_zero, List.set_cons_succ]
      refine wpAnyY_take (i := 6) (v := ?_) rfl (by kernel_rfl) (by kernel_rfl) (by kernel_rfl) (by kernel_rfl) (fun _ _ _ h => h) (Or.inl ⟨by kernel_rfl, ?_⟩) hS ?_
      rotate_left
      · intro w' hSw; have hlk := hSw.2.1.at (x := zbird) (by omega) (by go_simp); go_simp; with_reducible rfl
      try simp only [Act.put, List.getElem_toArray, List.getElem_cons_zero, List.getElem_cons_succ, List.setIfInBounds_toArray, List.set_cons_zero, List.set_cons_succ]
      refine wpAnyY_take (i := 7) (v := ?_) rfl (by kernel_rfl) (by kernel_rfl) (by kernel_rfl) (by kernel_rfl) (fun _ _ _ h => h) (Or.inl ⟨by kernel_rfl, ?_⟩) hS ?_
      rotate_left
      · intro w' hSw; go_simp; with_reducible rfl
      try simp only [Act.put, List.getElem_toArray, List.getElem_cons_zero, List.getElem_cons_succ, List.setIfInBounds_toArray, List.set_cons_zero, List.set_cons_succ]
      refine wpAnyY_take (i := 8) (v := ?_) rfl (by kernel_rfl) (by kernel_rfl) (by kernel_rfl) (by kernel_rfl) (fun _ _ _ h => h) (Or.inl ⟨by kernel_rfl, ?_⟩) hS ?_
      rotate_left
      · intro w' hSw; go_simp; with_reducible rfl
      try simp only [Act.put, List.getElem_toArray, List.getElem_cons_zero, List.getElem_cons_succ, List.setIfInBounds_toArray, List.set_cons_zero, List.set_cons_succ]
      refine wpAnyY_oneSW (i := 9) (by kernel_rfl) rfl (by kernel_rfl) (fun K9 hK9 => ?_)
      go_simp
      refine (share99 RI rs.length k kA (kA + 1) _ ⟨hrl.1, by have := hrl.2; omega⟩ ⟨by omega, by omega⟩ (by omega) hS.2.2.1 hS.2.2.2).mono ?_
      rintro e w6 ⟨rfl, hG6⟩
      replace ga := ga.t hG6
      refine hK9.out _ _ (hSk _ ga) (fun hS => ?_)
      clear hK9
      try simp only [Act.put, List.getElem_toArray, List.getElem_cons_zero, List.getElem_cons_succ, List.setIfInBounds_toArray, List.set_cons_zero, List.set_cons_succ]
      refine wpAnyY_take (i := 10) (v := ?_) rfl (by kernel_rfl) (by kernel_rfl) (by kernel_rfl) (by kernel_rfl) (fun _ _ _ h => h) (Or.inl ⟨by kernel_rfl, ?_⟩) hS ?_
      rotate_left
      · intro w' hSw; go_simp; with_reducible rfl
      try simp only [Act.put, List.getElem_toArray, List.getElem_cons_zero, List.getElem_cons_succ, List.setIfInBounds_toArray, List.set_cons_zero, List.set_cons_succ]
      refine wpAnyY_oneSW (i := 11) (by kernel_rfl) rfl (by kernel_rfl) (fun K11 hK11 => ?_)
      go_simp
      refine hK11.out _ _ (hSk _ (ga.a _)) (fun hS => ?_)
      clear hK11
      try simp only [Act.put, List.getElem_toArray, List.getElem_cons_zero, List.getElem_cons_succ, List.setIfInBounds_toArray, List.set_cons_zero, List.set_cons_succ]
      have ga7 := ga.a (.cells #[.int .i64 zbird, .int .i64 (wonAt WL zbird), .int .i64 (shareI RI rs.length k)] 40)
      have hol := own_G HO2.out ga7
      obtain ⟨i0, hi0, hz0, hz1, hz2⟩ := info_parts info40
      refine wpAnyY_oneSW (i := 12) (by kernel_rfl) rfl (by kernel_rfl) (fun K12 hK12 => ?_)
      refine wp_append_own _ _ _ 36 rfl w4.heap.size 40 i0 (.agg #[.int .i64 0, .int .i64 0, .int .i64 0]) 3 24 Tryz.underlying36 hi0 hz0 hz1 hz2 rfl (by decide) _ k (cv Pz.v (PL.take k)) rfl hol ⟨w6.heap.size, 0, none⟩ 1 1 [.int .i64 zbird, .int .i64 (wonAt WL zbird), .int .i64 (shareI RI rs.length k)] rfl rfl (cell_new5 _ _ _) (by simp [Value.oneCell']) (by unfold maxLen; omega) (by omega) ?hb ?hr
      case hb => exact (gw.t ga7).size
      case hr =>
        intro v9 w9 hown9 hg9 _
        obtain ⟨lb, lcc, rfl⟩ := own_slice hown9
        refine hK12.out _ _ ⟨hS.1.grown hg9 (own_ne hol hS.1 (by decide)), hS.2.1.grown hg9 (own_won hS.2.1 hol), hS.2.2.1.grown hg9 (own_ne hol hS.2.2.1 (by decide)), hS.2.2.2.grown hg9 (own_ne hol hS.2.2.2 (by decide))⟩ (fun hS => ?_)
        clear hK12
        try simp only [Act.put, List.getElem_toArray, List.getElem_cons_zero, List.getElem_cons_succ, List.setIfInBounds_toArray, List.set_cons_zero, List.set_cons_succ]
        have g9 := grow_own (gw.t ga7) hol (Nat.le_refl _) hg9
        have HN := Lib.hid hown9
        clear hown9 hg9 hol ga7 HO2 ga
        refine wpAnyY_oneW (i := 13) (by kernel_rfl) rfl (by kernel_rfl) (by kernel_rfl) (fun K13 hK13 => ?_)
        go_simp
        refine hK13.out _ _ ?_
        clear hK13
        try simp only [Act.put, List.getElem_toArray, List.getElem_cons_zero, List.getElem_cons_succ, List.setIfInBounds_toArray, List.set_cons_zero, List.set_cons_succ]
        refine wpAnyY_done (by kernel_rfl) ?_ _
        clear hS hSk
        go_wp2_with fail
        go_roundw
        case rel => exact ⟨k + 1, by omega, by go_num, by rw [HT2.out, cv_snoc]; exact HN.out, g9⟩
        case measure => simp [intOf] <;> omega
    · obtain rfl : k = rs.length := by omega
      have hki : ¬ ((rs.length : Nat) : Int) < rs.length := by omega
      have HF := Lib.hid (HP.out wo (.slice va rs.length vc) (by
        have h9 := own_weaken HO.out g4.size
        have e9 : PL.take rs.length = PL := by rw [← hpl, List.take_length]
        rw [e9] at h9
        rw [hpl]
        exact h9) (g4.t hG))
      clear HP HO
      go_wp2_with fail
      first | exact HF.out | (go_ret; exact HF.out)
end Go.Proofs.YtnkmcoljijmgpaaGreat

set_option linter.unusedSimpArgs false
set_option linter.unusedVariables false
namespace Go.Proofs.YtnkmcoljijmgpaaGreat
open Go.RowKit Go.Shelf Go.Sort Go.Maps
attribute [local go_sem] Oper.semAt_some
def Is2 (A : Array Value) : Prop := ∃ (x0 x1 : Int), A = #[.int .i64 x0, .int .i64 x1]
def Is4 (A : Array Value) : Prop := ∃ (x0 x1 x2 x3 : Int), A = #[.int .i64 x0, .int .i64 x1, .int .i64 x2, .int .i64 x3]
set_option maxRecDepth 100000 in
set_option maxHeartbeats 4000000 in
theorem store62 (W : World) (g : Nat) (d s : Operand) {OLD NEW : Array Value} (hO : Is2 OLD) (hR : Is2 NEW) (op : Oper) (ev : Operand → Value) (ho : op.op = .store 62 d s) (hv : ev d = .pointer (some ⟨g, 0, none⟩)) (hs : ev s = .agg NEW) (hB : Blk W g 62 OLD) :
    ∃ W2, (execOp ev op).run Tryz.prog W = .ok .skip W2 ∧ Blk W2 g 62 NEW ∧ (∀ b, b ≠ g → W2.heap[b]? = W.heap[b]?) ∧ ∀ w0 : World, w0.heap.size ≤ g → G w0 W → G w0 W2 := by
  obtain ⟨y0, y1, rfl⟩ := hO
  obtain ⟨x0, x1, rfl⟩ := hR
  have c0 : W.cell? ⟨g, 0, none⟩ = some (.int .i64 y0) := hB.cell 0
  have z0 := hB.frozen 0
  have c1 : W.cell? ⟨g, 1, none⟩ = some (.int .i64 y1) := hB.cell 1
  have z1 := hB.frozen 1
  have lB := hB.lt
  refine ⟨((W).setCell ⟨g, 0, none⟩ (.int .i64 x0)).setCell ⟨g, 1, none⟩ (.int .i64 x1), ?_, ?_, ?_, fun w0 hg hG => ((hG).s (p := ⟨g, 0, none⟩) hg (.int .i64 x0)).s (p := ⟨g, 1, none⟩) hg (.int .i64 x1)⟩
  · clear hB
    unfold execOp
    simp only [ho, hv, hs]
    go_simp
  · have b := ((hB).set_ 0 (.int .i64 x0)).set_ 1 (.int .i64 x1)
    simp only [List.setIfInBounds_toArray, List.set_cons_zero, List.set_cons_succ] at b
    exact b
  · exact far_trans (far_trans (fun _ _ => rfl) 0 (.int .i64 x0)) 1 (.int .i64 x1)
set_option maxRecDepth 100000 in
set_option maxHeartbeats 4000000 in
theorem store33 (W : World) (g : Nat) (d s : Operand) {OLD NEW : Array Value} (hO : Is4 OLD) (hR : Is4 NEW) (op : Oper) (ev : Operand → Value) (ho : op.op = .store 33 d s) (hv : ev d = .pointer (some ⟨g, 0, none⟩)) (hs : ev s = .agg NEW) (hB : Blk W g 33 OLD) :
    ∃ W2, (execOp ev op).run Tryz.prog W = .ok .skip W2 ∧ Blk W2 g 33 NEW ∧ (∀ b, b ≠ g → W2.heap[b]? = W.heap[b]?) ∧ ∀ w0 : World, w0.heap.size ≤ g → G w0 W → G w0 W2 := by
  obtain ⟨y0, y1, y2, y3, rfl⟩ := hO
  obtain ⟨x0, x1, x2, x3, rfl⟩ := hR
  have c0 : W.cell? ⟨g, 0, none⟩ = some (.int .i64 y0) := hB.cell 0
  have z0 := hB.frozen 0
  have c1 : W.cell? ⟨g, 1, none⟩ = some (.int .i64 y1) := hB.cell 1
  have z1 := hB.frozen 1
  have c2 : W.cell? ⟨g, 2, none⟩ = some (.int .i64 y2) := hB.cell 2
  have z2 := hB.frozen 2
  have c3 : W.cell? ⟨g, 3, none⟩ = some (.int .i64 y3) := hB.cell 3
  have z3 := hB.frozen 3
  have lB := hB.lt
  refine ⟨((((W).setCell ⟨g, 0, none⟩ (.int .i64 x0)).setCell ⟨g, 1, none⟩ (.int .i64 x1)).setCell ⟨g, 2, none⟩ (.int .i64 x2)).setCell ⟨g, 3, none⟩ (.int .i64 x3), ?_, ?_, ?_, fun w0 hg hG => ((((hG).s (p := ⟨g, 0, none⟩) hg (.int .i64 x0)).s (p := ⟨g, 1, none⟩) hg (.int .i64 x1)).s (p := ⟨g, 2, none⟩) hg (.int .i64 x2)).s (p := ⟨g, 3, none⟩) hg (.int .i64 x3)⟩
  · clear hB
    unfold execOp
    simp only [ho, hv, hs]
    go_simp
  · have b := ((((hB).set_ 0 (.int .i64 x0)).set_ 1 (.int .i64 x1)).set_ 2 (.int .i64 x2)).set_ 3 (.int .i64 x3)
    simp only [List.setIfInBounds_toArray, List.set_cons_zero, List.set_cons_succ] at b
    exact b
  · exact far_trans (far_trans (far_trans (far_trans (fun _ _ => rfl) 0 (.int .i64 x0)) 1 (.int .i64 x1)) 2 (.int .i64 x2)) 3 (.int .i64 x3)
theorem wp_store33 {o : Oper} {a : Act} {W : World} {K : Act → World → Prop} {Q : Exit → Act → World → Prop} (g : Nat) (d s : Operand) {OLD NEW : Array Value} (hO : Is4 OLD) (hR : Is4 NEW) (ho : o.op = .store 33 d s) (hv : a.eval d = .pointer (some ⟨g, 0, none⟩)) (hs : a.eval s = .agg NEW) (hB : Blk W g 33 OLD)
    (hk : ∀ W2, Blk W2 g 33 NEW → (∀ b, b ≠ g → W2.heap[b]? = W.heap[b]?) → (∀ w0 : World, w0.heap.size ≤ g → G w0 W → G w0 W2) → K (a.put o.dst undef) W2) : Oper.wp Tryz.prog o a W K Q := by
  obtain ⟨W2, h1, h2, h3, h4⟩ := store33 W g d s hO hR o a.eval ho hv hs hB
  unfold Oper.wp
  rw [h1]
  exact hk W2 h2 h3 h4
theorem wpList_store33 {w : World} {ops : Array Oper} {rest : List Oper} {o : Oper} {a : Act} {Q : Exit → Act → World → Prop} (g : Nat) (d s : Operand) {OLD NEW : Array Value} (hO : Is4 OLD) (hR : Is4 NEW) (hgd : o.guard = none) (ho : o.op = .store 33 d s) (hv : a.eval d = .pointer (some ⟨g, 0, none⟩)) (hs : a.eval s = .agg NEW) (hB : Blk w g 33 OLD)
    (h : ∀ W2, Blk W2 g 33 NEW → (∀ b, b ≠ g → W2.heap[b]? = w.heap[b]?) → (∀ w0 : World, w0.heap.size ≤ g → G w0 w → G w0 W2) → wpList Tryz.prog ops Q rest (a.put o.dst undef) W2) : wpList Tryz.prog ops Q (o :: rest) a w := by
  refine wpList_plain hgd fun K hK => ?_
  exact wp_store33 g d s hO hR ho hv hs hB fun W2 h1 h2 h3 => hK _ _ (h W2 h1 h2 h3)
end Go.Proofs.YtnkmcoljijmgpaaGreat

set_option linter.unusedSimpArgs false
set_option linter.unusedVariables false
namespace Go.Proofs.YtnkmcoljijmgpaaGreat
open Go.RowKit Go.Shelf Go.Sort Go.Maps
attribute [local go_sem] Oper.semAt_some
set_option maxRecDepth 100000 in
set_option maxHeartbeats 4000000 in
theorem res17 (tmps : Array Value) (w : World) (g : Nat) (n : Int) {REL : Array Value} (hR : Is4 REL) (h : tmps.getD 4 undef = .pointer (some ⟨g, 0, none⟩)) (h7 : tmps.getD 5 undef = .int .i64 n) (hB : Blk w g 33 REL) :
    (results Tryz.f17 tmps).run Tryz.prog w = .ok (.tuple #[.agg REL, .int .i64 n]) w := by
  obtain ⟨x0, x1, x2, x3, rfl⟩ := hR
  have c0 := hB.cell 0
  have c1 := hB.cell 1
  have c2 := hB.cell 2
  have c3 := hB.cell 3
  clear hB
  have hr : Tryz.f17.results = #[.cell 4 33, .tmp 5] := rfl
  have h' : tmps[4]?.getD undef = .pointer (some ⟨g, 0, none⟩) := by simpa using h
  have h7' : tmps[5]?.getD undef = .int .i64 n := by simpa using h7
  simp only [results, hr]
  go_simp
def potV (f : Fu) : Array Value := #[.int .i64 (totI f), .int .i64 (kepI f), .int .i64 (lefI f), .int .i64 (resI f [])]
def PotPost (r : Ra) (p : Int) (w : World) (e : Ending) (w' : World) : Prop := G w w' ∧ ((qE r p [] ≠ 0 ∧ e = .returned (.tuple #[.agg #[.int .i64 0, .int .i64 0, .int .i64 0, .int .i64 0], .int .i64 (qE r p [])])) ∨ (qE r p [] = 0 ∧ e = .returned (.tuple #[.agg (potV (fuOf r p none 0)), .int .i64 0])))
set_option maxRecDepth 100000 in
set_option maxHeartbeats 8000000 in
theorem Pot_any (r : Ra) (p : Int) (w : World) (h : r.At w) : Calls Tryz.prog 17 #[.agg r.v, .int .i64 p] w (PotPost r p w) := by
  have HQ := Lib.hid (fun (W : World) (hW : G w W) => question_any r p [] none 0 W (h.keep hW) (.inl rfl) (by simp))
  have HE : Hid (qE r p [] ≠ 0 → ∀ W', G w W' → PotPost r p w (.returned (.tuple #[.agg #[.int .i64 0, .int .i64 0, .int .i64 0, .int .i64 0], .int .i64 (qE r p [])])) W') := fun a W' b => ⟨b, .inl ⟨a, rfl⟩⟩
  have HS : Hid (qE r p [] = 0 → ∀ fa fc W', G w W' → PotPost r p w (.returned (.tuple #[.agg (potV (fuOf r p fa fc)), .int .i64 0])) W') := fun a fa fc W' b => ⟨b, .inr ⟨a, rfl⟩⟩
  have HC := Lib.hid (fun (hq : qE r p [] = 0) (W : World) (hW : G w W) (B : Nat) (fa : Option Addr) (fc : Nat) (ho : W.ownsRow B 60 5 (.slice fa (runners r p).length fc) (runners r p).length (rcV (runners r p))) => gf_of (qE_parts hq).1 (qE_parts hq).2 (h.keep hW) ho)
  unfold QPost at HQ
  have hv : ∀ fa fc, (fuOf r p fa fc).v = #[.int .i64 (poolAt r p).stake, .int .i64 (poolAt r p).cut, .int .i64 (poolAt r p).kind, .slice (poolAt r p).ta (poolAt r p).table.length (poolAt r p).tc, .int .i64 (poolAt r p).quota, .bool (poolAt r p).first, .slice fa (runners r p).length fc, .slice r.ta r.protests.length r.tc] := fun _ _ => rfl
  generalize PotPost r p w = PP at *
  clear h
  have hn1 : (w.alloc (.cells r.v 26)).heap.size = w.heap.size + 1 := Array.size_push ..
  have g0 : G w ((w.alloc (.cells r.v 26)).alloc (.cells #[.int .i64 0, .int .i64 0, .int .i64 0, .int .i64 0] 33)) := ((G.rf _).a _).a _
  have b0 : Blk ((w.alloc (.cells r.v 26)).alloc (.cells #[.int .i64 0, .int .i64 0, .int .i64 0, .int .i64 0] 33)) w.heap.size 26 r.v := (Blk.new _ _ _).alloc _
  have bz : Blk ((w.alloc (.cells r.v 26)).alloc (.cells #[.int .i64 0, .int .i64 0, .int .i64 0, .int .i64 0] 33)) (w.heap.size + 1) 33 #[.int .i64 0, .int .i64 0, .int .i64 0, .int .i64 0] := Blk.new1 _ _ _ _
  have m0 : ((w.alloc (.cells r.v 26)).alloc (.cells #[.int .i64 0, .int .i64 0, .int .i64 0, .int .i64 0] 33)).cell? ⟨w.heap.size, 0, none⟩ = some (.slice r.ra r.racers.length r.rc) := b0.cell 0
  have m1 : ((w.alloc (.cells r.v 26)).alloc (.cells #[.int .i64 0, .int .i64 0, .int .i64 0, .int .i64 0] 33)).cell? ⟨w.heap.size, 1, none⟩ = some (.slice r.pa r.pools.length r.pc) := b0.cell 1
  have m2 : ((w.alloc (.cells r.v 26)).alloc (.cells #[.int .i64 0, .int .i64 0, .int .i64 0, .int .i64 0] 33)).cell? ⟨w.heap.size, 2, none⟩ = some (.slice r.ta r.protests.length r.tc) := b0.cell 2
  have l0 := b0.lt
  have hrv : r.v = #[.slice r.ra r.racers.length r.rc, .slice r.pa r.pools.length r.pc, .slice r.ta r.protests.length r.tc] := rfl
  rw [hrv] at HQ g0 m0 m1 m2 l0 bz hn1 ⊢
  clear hrv b0
  generalize hQE : qE r p [] = QE at *
  go_enter Tryz.func17, Tryz.ntmps17
  go_upto_region 1 with fail
  change Code.wp _ _ _ _ ((w.alloc (.cells #[.slice r.ra r.racers.length r.rc, .slice r.pa r.pools.length r.pc, .slice r.ta r.protests.length r.tc] 26)).alloc (.cells #[.int .i64 0, .int .i64 0, .int .i64 0, .int .i64 0] 33))
  clear hn1
  generalize (w.alloc (.cells #[.slice r.ra r.racers.length r.rc, .slice r.pa r.pools.length r.pc, .slice r.ta r.protests.length r.tc] 26)).alloc (.cells #[.int .i64 0, .int .i64 0, .int .i64 0, .int .i64 0] 33) = W1 at *
  by_cases hq : QE = 0
  · have HQ1 : Hid (Calls Tryz.prog 46 #[.agg #[.slice r.ra r.racers.length r.rc, .slice r.pa r.pools.length r.pc, .slice r.ta r.protests.length r.tc], .int .i64 p, .slice none 0 0] W1 fun e w' => ∃ fa fc, e = .returned (.tuple #[.agg (fuOf r p fa fc).v, .int .i64 0]) ∧ w'.ownsRow W1.heap.size 60 5 (.slice fa (runners r p).length fc) (runners r p).length (rcV (runners r p)) ∧ G W1 w') := by
      refine (HQ.out W1 g0).mono ?_
      rintro e w' ⟨hG, hh⟩
      rcases hh with ⟨a, _⟩ | ⟨_, fa, fc, a, b⟩
      · exact absurd hq a
      · exact ⟨fa, fc, a, b, hG⟩
    simp only [hv] at HQ1
    clear HQ HE
    go_upto_region 4 with (go_at_call 46; refine (HQ1.out).mono ?_; rintro e w2 ⟨fa, fc, rfl, ho2, hG2⟩)
    have ga := (G.rf w2).a (.cells #[.int .i64 (poolAt r p).stake, .int .i64 (poolAt r p).cut, .int .i64 (poolAt r p).kind, .slice (poolAt r p).ta (poolAt r p).table.length (poolAt r p).tc, .int .i64 (poolAt r p).quota, .bool (poolAt r p).first, .slice fa (runners r p).length fc, .slice r.ta r.protests.length r.tc] 85)
    have bK : Blk (w2.alloc (.cells #[.int .i64 (poolAt r p).stake, .int .i64 (poolAt r p).cut, .int .i64 (poolAt r p).kind, .slice (poolAt r p).ta (poolAt r p).table.length (poolAt r p).tc, .int .i64 (poolAt r p).quota, .bool (poolAt r p).first, .slice fa (runners r p).length fc, .slice r.ta r.protests.length r.tc] 85)) w2.heap.size 85 #[.int .i64 (poolAt r p).stake, .int .i64 (poolAt r p).cut, .int .i64 (poolAt r p).kind, .slice (poolAt r p).ta (poolAt r p).table.length (poolAt r p).tc, .int .i64 (poolAt r p).quota, .bool (poolAt r p).first, .slice fa (runners r p).length fc, .slice r.ta r.protests.length r.tc] := Blk.new _ _ _
    have hgf := HC.out hq _ ((g0.t hG2).t ga) _ fa fc (own_G ho2 ga)
    have g3 := (g0.t hG2).t ga
    have bz3 := (bz.keep hG2).keep ga
    have hKz : w.heap.size + 1 < w2.heap.size := (bz.keep hG2).lt
    clear m0 m1 m2 l0 ho2 ga HC HQ1 hG2 bz
    obtain ⟨K, hK⟩ : ∃ K, K = w2.heap.size := ⟨_, rfl⟩
    rw [← hK] at bK hKz ⊢
    clear hK
    change Code.wp _ _ _ _ (w2.alloc (.cells #[.int .i64 (poolAt r p).stake, .int .i64 (poolAt r p).cut, .int .i64 (poolAt r p).kind, .slice (poolAt r p).ta (poolAt r p).table.length (poolAt r p).tc, .int .i64 (poolAt r p).quota, .bool (poolAt r p).first, .slice fa (runners r p).length fc, .slice r.ta r.protests.length r.tc] 85))
    generalize w2.alloc (.cells #[.int .i64 (poolAt r p).stake, .int .i64 (poolAt r p).cut, .int .i64 (poolAt r p).kind, .slice (poolAt r p).ta (poolAt r p).table.length (poolAt r p).tc, .int .i64 (poolAt r p).quota, .bool (poolAt r p).first, .slice fa (runners r p).length fc, .slice r.ta r.protests.length r.tc] 85) = w3 at *
    have HS2 := Lib.hid (HS.out hq fa fc)
    have HTo := Lib.hid (fun (W : World) => total_any (fuOf r p fa fc) W hgf.B)
    have HKe := Lib.hid (fun (W : World) => kept_any (fuOf r p fa fc) W hgf.B)
    have HLe := Lib.hid (fun (W : World) => left_any (fuOf r p fa fc) W hgf.B)
    have HWo := Lib.hid (fun (W : World) (hW : G w3 W) => (hgf.keep hW).won [] none 0 (.inl rfl) (by simp))
    have HRe := Lib.hid (fun (W : World) (hW : G w3 W) (m : Nat) (hm : Won W m (wonL (fuOf r p fa fc) [])) => (hgf.keep hW).rest [] m hm)
    rw [show lefI (fuOf r p fa fc) - sndS (wonL (fuOf r p fa fc) []) = resI (fuOf r p fa fc) [] from rfl] at HRe
    unfold potV at HS2
    generalize totI (fuOf r p fa fc) = TT at *
    generalize kepI (fuOf r p fa fc) = KK at *
    generalize lefI (fuOf r p fa fc) = LL at *
    generalize resI (fuOf r p fa fc) [] = RR at *
    generalize wonL (fuOf r p fa fc) [] = WL at *
    rw [hv fa fc] at HTo HKe HLe HWo HRe
    clear hgf hv HS
    have hSk : ∀ W', G w3 W' → Blk W' K 85 #[.int .i64 (poolAt r p).stake, .int .i64 (poolAt r p).cut, .int .i64 (poolAt r p).kind, .slice (poolAt r p).ta (poolAt r p).table.length (poolAt r p).tc, .int .i64 (poolAt r p).quota, .bool (poolAt r p).first, .slice fa (runners r p).length fc, .slice r.ta r.protests.length r.tc] := fun W' hW => bK.keep hW
    refine wp_region_Y (S := fun W' => Blk W' K 85 #[.int .i64 (poolAt r p).stake, .int .i64 (poolAt r p).cut, .int .i64 (poolAt r p).kind, .slice (poolAt r p).ta (poolAt r p).table.length (poolAt r p).tc, .int .i64 (poolAt r p).quota, .bool (poolAt r p).first, .slice fa (runners r p).length fc, .slice r.ta r.protests.length r.tc]) 12 13 rfl (by kernel_rfl) (hSk _ (G.rf _).d) (fun hS => ?_)
    have ga := (G.rf w3).d
    refine wpAnyY_take (i := 0) (v := ?_) rfl (by kernel_rfl) (by kernel_rfl) (by kernel_rfl) (by kernel_rfl) (fun _ _ _ h => h) (Or.inl ⟨by kernel_rfl, ?_⟩) hS ?_
    rotate_left
    · intro w' hSw; have m0 := hSw.cell 0; have m1 := hSw.cell 1; have m2 := hSw.cell 2; have m3 := hSw.cell 3; have m4 := hSw.cell 4; have m5 := hSw.cell 5; have m6 := hSw.cell 6; have m7 := hSw.cell 7; have l0 := hSw.lt; go_simp; with_reducible rfl
    try simp only [Act.put, List.getElem_toArray, List.getElem_cons_zero, List.getElem_cons_succ, List.setIfInBounds_toArray, List.set_cons_zero, List.set_cons_succ]
    refine wpAnyY_take (i := 2) (v := ?_) rfl (by kernel_rfl) (by kernel_rfl) (by kernel_rfl) (by kernel_rfl) (fun _ _ _ h => h) (Or.inl ⟨by kernel_rfl, ?_⟩) hS ?_
    rotate_left
    · intro w' hSw; have m0 := hSw.cell 0; have m1 := hSw.cell 1; have m2 := hSw.cell 2; have m3 := hSw.cell 3; have m4 := hSw.cell 4; have m5 := hSw.cell 5; have m6 := hSw.cell 6; have m7 := hSw.cell 7; have l0 := hSw.lt; go_simp; with_reducible rfl
    try simp only [Act.put, List.getElem_toArray, List.getElem_cons_zero, List.getElem_cons_succ, List.setIfInBounds_toArray, List.set_cons_zero, List.set_cons_succ]
    refine wpAnyY_take (i := 4) (v := ?_) rfl (by kernel_rfl) (by kernel_rfl) (by kernel_rfl) (by kernel_rfl) (fun _ _ _ h => h) (Or.inl ⟨by kernel_rfl, ?_⟩) hS ?_
    rotate_left
    · intro w' hSw; have m0 := hSw.cell 0; have m1 := hSw.cell 1; have m2 := hSw.cell 2; have m3 := hSw.cell 3; have m4 := hSw.cell 4; have m5 := hSw.cell 5; have m6 := hSw.cell 6; have m7 := hSw.cell 7; have l0 := hSw.lt; go_simp; with_reducible rfl
    try simp only [Act.put, List.getElem_toArray, List.getElem_cons_zero, List.getElem_cons_succ, List.setIfInBounds_toArray, List.set_cons_zero, List.set_cons_succ]
    refine wpAnyY_take (i := 6) (v := ?_) rfl (by kernel_rfl) (by kernel_rfl) (by kernel_rfl) (by kernel_rfl) (fun _ _ _ h => h) (Or.inl ⟨by kernel_rfl, ?_⟩) hS ?_
    rotate_left
    · intro w' hSw; have m0 := hSw.cell 0; have m1 := hSw.cell 1; have m2 := hSw.cell 2; have m3 := hSw.cell 3; have m4 := hSw.cell 4; have m5 := hSw.cell 5; have m6 := hSw.cell 6; have m7 := hSw.cell 7; have l0 := hSw.lt; go_simp; with_reducible rfl
    try simp only [Act.put, List.getElem_toArray, List.getElem_cons_zero, List.getElem_cons_succ, List.setIfInBounds_toArray, List.set_cons_zero, List.set_cons_succ]
    refine wpAnyY_take (i := 7) (v := ?_) rfl (by kernel_rfl) (by kernel_rfl) (by kernel_rfl) (by kernel_rfl) (fun _ _ _ h => h) (Or.inl ⟨by kernel_rfl, ?_⟩) hS ?_
    rotate_left
    · intro w' hSw; have m0 := hSw.cell 0; have m1 := hSw.cell 1; have m2 := hSw.cell 2; have m3 := hSw.cell 3; have m4 := hSw.cell 4; have m5 := hSw.cell 5; have m6 := hSw.cell 6; have m7 := hSw.cell 7; have l0 := hSw.lt; go_simp; with_reducible rfl
    try simp only [Act.put, List.getElem_toArray, List.getElem_cons_zero, List.getElem_cons_succ, List.setIfInBounds_toArray, List.set_cons_zero, List.set_cons_succ]
    refine wpAnyY_oneSW (i := 1) (by kernel_rfl) rfl (by kernel_rfl) (fun K1 hK1 => ?_)
    go_simp
    refine (HTo.out _).mono ?_
    rintro e w4 ⟨rfl, hG4⟩
    replace ga := ga.t hG4
    refine hK1.out _ _ (hSk _ ga) (fun hS => ?_)
    clear hK1
    try simp only [Act.put, List.getElem_toArray, List.getElem_cons_zero, List.getElem_cons_succ, List.setIfInBounds_toArray, List.set_cons_zero, List.set_cons_succ]
    refine wpAnyY_oneSW (i := 3) (by kernel_rfl) rfl (by kernel_rfl) (fun K3 hK3 => ?_)
    go_simp
    refine (HKe.out _).mono ?_
    rintro e w5 ⟨rfl, hG5⟩
    replace ga := ga.t hG5
    refine hK3.out _ _ (hSk _ ga) (fun hS => ?_)
    clear hK3
    try simp only [Act.put, List.getElem_toArray, List.getElem_cons_zero, List.getElem_cons_succ, List.setIfInBounds_toArray, List.set_cons_zero, List.set_cons_succ]
    refine wpAnyY_oneSW (i := 5) (by kernel_rfl) rfl (by kernel_rfl) (fun K5 hK5 => ?_)
    go_simp
    refine (HLe.out _).mono ?_
    rintro e w6 ⟨rfl, hG6⟩
    replace ga := ga.t hG6
    refine hK5.out _ _ (hSk _ ga) (fun hS => ?_)
    clear hK5
    try simp only [Act.put, List.getElem_toArray, List.getElem_cons_zero, List.getElem_cons_succ, List.setIfInBounds_toArray, List.set_cons_zero, List.set_cons_succ]
    refine wpAnyY_oneSW (i := 8) (by kernel_rfl) rfl (by kernel_rfl) (fun K8 hK8 => ?_)
    go_simp
    refine (HWo.out _ ga).mono ?_
    rintro e w7 ⟨m, rfl, hwon, hml, hG7⟩
    replace ga := ga.t hG7
    refine hK8.out _ _ (hSk _ ga) (fun hS => ?_)
    clear hK8
    try simp only [Act.put, List.getElem_toArray, List.getElem_cons_zero, List.getElem_cons_succ, List.setIfInBounds_toArray, List.set_cons_zero, List.set_cons_succ]
    refine wpAnyY_oneSW (i := 9) (by kernel_rfl) rfl (by kernel_rfl) (fun K9 hK9 => ?_)
    go_simp
    refine (HRe.out _ ga m hwon).mono ?_
    rintro e w8 ⟨rfl, hG8⟩
    replace ga := ga.t hG8
    refine hK9.out _ _ (hSk _ ga) (fun hS => ?_)
    clear hK9
    try simp only [Act.put, List.getElem_toArray, List.getElem_cons_zero, List.getElem_cons_succ, List.setIfInBounds_toArray, List.set_cons_zero, List.set_cons_succ]
    refine wpAnyY_take (i := 10) (v := ?_) rfl (by kernel_rfl) (by kernel_rfl) (by kernel_rfl) (by kernel_rfl) (fun _ _ _ h => h) (Or.inl ⟨by kernel_rfl, ?_⟩) hS ?_
    rotate_left
    · intro w' hSw; go_simp; with_reducible rfl
    try simp only [Act.put, List.getElem_toArray, List.getElem_cons_zero, List.getElem_cons_succ, List.setIfInBounds_toArray, List.set_cons_zero, List.set_cons_succ]
    have bz8 := bz3.keep ga
    refine wpAnyY_oneSW (i := 11) (by kernel_rfl) rfl (by kernel_rfl) (fun K11 hK11 => ?_)
    refine wp_store33 (w.heap.size + 1) (.tmp 4) (.tmp 28) (OLD := #[.int .i64 0, .int .i64 0, .int .i64 0, .int .i64 0]) (NEW := #[.int .i64 TT, .int .i64 KK, .int .i64 LL, .int .i64 RR]) ⟨_, _, _, _, rfl⟩ ⟨_, _, _, _, rfl⟩ rfl rfl rfl bz8 (fun W2 hb2 hF2 hG2 => ?_)
    refine hK11.out _ _ ((hF2 K (by omega)).trans hS) (fun hS => ?_)
    clear hK11
    try simp only [Act.put, List.getElem_toArray, List.getElem_cons_zero, List.getElem_cons_succ, List.setIfInBounds_toArray, List.set_cons_zero, List.set_cons_succ]
    have gz : G w W2 := hG2 w (by omega) (g3.t ga)
    clear hF2 hG2 bz8
    refine wpAnyY_oneW (i := 12) (by kernel_rfl) rfl (by kernel_rfl) (by kernel_rfl) (fun K12 hK12 => ?_)
    go_simp
    refine hK12.out _ _ ?_
    clear hK12
    try simp only [Act.put, List.getElem_toArray, List.getElem_cons_zero, List.getElem_cons_succ, List.setIfInBounds_toArray, List.set_cons_zero, List.set_cons_succ]
    refine wpAnyY_done (by kernel_rfl) ?_ _
    have HF := Lib.hid (HS2.out _ gz)
    clear HS2 hS hSk ga
    go_wp2_with fail
    try simp only [Exit.inBlock, Exit.then]
    refine bodyPost_ret (res17 _ _ (w.heap.size + 1) 0 (REL := #[.int .i64 TT, .int .i64 KK, .int .i64 LL, .int .i64 RR]) ⟨_, _, _, _, rfl⟩ rfl rfl hb2) rfl ?_
    exact HF.out
  · have HQ0 : Hid (Calls Tryz.prog 46 #[.agg #[.slice r.ra r.racers.length r.rc, .slice r.pa r.pools.length r.pc, .slice r.ta r.protests.length r.tc], .int .i64 p, .slice none 0 0] W1 fun e w' => e = .returned (.tuple #[.agg #[.int .i64 0, .int .i64 0, .int .i64 0, .slice none 0 0, .int .i64 0, .bool false, .slice none 0 0, .slice none 0 0], .int .i64 QE]) ∧ G W1 w') := by
      refine (HQ.out W1 g0).mono ?_
      rintro e w' ⟨hG, hh⟩
      rcases hh with ⟨_, a⟩ | ⟨a, _⟩
      · exact ⟨a, hG⟩
      · exact absurd a hq
    have e0 : (QE == 0) = false := by simpa using hq
    have HE2 := Lib.hid (HE.out hq)
    clear HQ HE HC HS hv
    go_upto_region 3 with (go_at_call 46; refine (HQ0.out).mono ?_; rintro e w2 ⟨rfl, hG2⟩)
    have bz2 := (bz.keep hG2).alloc (.cells #[.int .i64 0, .int .i64 0, .int .i64 0, .slice none 0 0, .int .i64 0, .bool false, .slice none 0 0, .slice none 0 0] 85)
    have g2 := (g0.t hG2).a (.cells #[.int .i64 0, .int .i64 0, .int .i64 0, .slice none 0 0, .int .i64 0, .bool false, .slice none 0 0, .slice none 0 0] 85)
    clear m0 m1 m2 l0 bz HQ0
    refine wp_region_lit ?_
    refine wpList_plain rfl fun K hK => ?_
    go_simp
    refine hK _ _ ?_
    clear hK
    try simp only [Act.put, List.getElem_toArray, List.getElem_cons_zero, List.getElem_cons_succ, List.setIfInBounds_toArray, List.set_cons_zero, List.set_cons_succ]
    refine wpList_plain rfl fun K hK => ?_
    go_simp
    refine hK _ _ ?_
    clear hK
    try simp only [Act.put, List.getElem_toArray, List.getElem_cons_zero, List.getElem_cons_succ, List.setIfInBounds_toArray, List.set_cons_zero, List.set_cons_succ]
    refine wpList_store33 (w.heap.size + 1) (.tmp 4) (.tmp 16) (OLD := #[.int .i64 0, .int .i64 0, .int .i64 0, .int .i64 0]) (NEW := #[.int .i64 0, .int .i64 0, .int .i64 0, .int .i64 0]) ⟨_, _, _, _, rfl⟩ ⟨_, _, _, _, rfl⟩ rfl rfl rfl rfl bz2 (fun W9 hb9 hF9 hG9 => ?_)
    try simp only [Act.put, List.getElem_toArray, List.getElem_cons_zero, List.getElem_cons_succ, List.setIfInBounds_toArray, List.set_cons_zero, List.set_cons_succ]
    have g9 : G w W9 := hG9 w (by omega) g2
    have HF := Lib.hid (HE2.out W9 g9)
    clear hF9 hG9 g9 g2
    go_wp2_with fail
    try simp only [Exit.inBlock, Exit.then]
    refine bodyPost_ret (res17 _ _ (w.heap.size + 1) QE (REL := #[.int .i64 0, .int .i64 0, .int .i64 0, .int .i64 0]) ⟨_, _, _, _, rfl⟩ rfl rfl hb9) rfl ?_
    exact HF.out
end Go.Proofs.YtnkmcoljijmgpaaGreat

set_option linter.unusedSimpArgs false
set_option linter.unusedVariables false
namespace Go.Proofs.YtnkmcoljijmgpaaGreat
open Go.RowKit Go.Shelf
attribute [local go_sem] Oper.semAt_some
/-- the contract of an iterator that writes cells of its own, and of which is known what lies in memory when it yields -/
def SeqY {α : Type} (T : TypeId → Prop) (F : Fence) (n : Nat) (P : Program) (g : Nat) (lb : Array Value) (ev : α → Value) (Y : α → World → Prop) (Kp : World → World → Prop) (S Sp : List α → Prop) (N : Nat) (w : World) : Prop :=
  ∀ (l : Nat) (J Jx : List α → World → Prop) (W : World), G w W → StableT T W.heap.size J → StableT T W.heap.size Jx →
    (∀ pre x W1, J pre W1 → Y x W1 → pre.length < N → YieldAt F (n - 1) P l #[ev x] W1 fun e W' => (e = .returned (.bool true) ∧ J (pre ++ [x]) W' ∧ Kp W1 W') ∨ (e = .returned (.bool false) ∧ Jx (pre ++ [x]) W')) →
    J [] W → CallsIn F n P g (#[.func (.yield l) #[] #[]] ++ lb) W fun e W' => (∃ v, e = .returned v) ∧ ((∃ xs, S xs ∧ J xs W') ∨ (∃ pre, Sp pre ∧ Jx pre W'))
section
variable {F : Fence} {n : Nat} {P : Program}
/-- a range over a function that writes cells of its own; the loop variable is boxed, its box's address is in slot tb -/
theorem rangeFunc_Y {α : Type} {T : TypeId → Prop} {g : Operand} {tv : Tmp} {assign body : Code} {Q : Exit → Act → World → Prop} {a : Act} {w : World}
    (hro : F.round = none) (h1 : 1 ≤ n) {gf : Nat} {lb : Array Value} (hg : a.eval g = .func (.func gf) #[] lb) (hFg : F.fn gf) (eg : ∀ args w, (callFunc gf args).run P w = .ok (.enter gf args) w)
    {ev : α → Value} {Y : α → World → Prop} {Kp : World → World → Prop} {S Sp : List α → Prop} {N : Nat} {w0 : World} (hseq : SeqY T F (n - 1) P gf lb ev Y Kp S Sp N w0) (hb0 : G w0 w)
    (hKt : ∀ {A B C : World}, Kp A B → Kp B C → Kp A C) (hKb : ∀ (W : World) (l : Nat) (o o' : Obj), w.heap.size ≤ l → W.heap[l]? = some o → o.isCells = false → Kp W (W.putObj l o')) (hYb : ∀ (x : α) (W : World) (l : Nat) (o o' : Obj), W.heap[l]? = some o → o.isCells = false → Y x W → Y x (W.putObj l o'))
    (I : List α → World → Prop) (Ix : Code → List α → World → Prop) (hI : OwnFrom w.heap.size I) (hIx : ∀ c, OwnFrom w.heap.size (Ix c)) (hIT : ∀ B, w.heap.size ≤ B → StableT T B I) (hIxT : ∀ c B, w.heap.size ≤ B → StableT T B (Ix c)) (h0 : I [] w)
    (tb : Tmp)
    (hassign : ∀ (l : Nat) (x : α) (W : World) (K : Act → World → Prop), K { tmps := (a.tmps.setIfInBounds tv (ev x)).setIfInBounds tb (ev x), defers := [] } W →
      assign.wpIn (F.inRound l) (n - 1 - 1) P (Exit.then K (fun _ _ _ => False)) { tmps := a.tmps.setIfInBounds tv (ev x), defers := [] } W)
    (hbody : ∀ (l : Nat) (pre : List α) (x : α) (W : World), I pre W → Y x W → pre.length < N →
      body.wpIn (F.inRound l) (n - 1 - 1) P (ownPostG w.heap.size Kp I Ix (pre ++ [x]) W) { tmps := (a.tmps.setIfInBounds tv (ev x)).setIfInBounds tb (ev x), defers := [] } W)
    (hdone : ∀ (D : Nat) (xs : List α) (W : World), w.heap.size ≤ D → S xs → I xs W → W.heap[D]? = some (.deferred (some [])) → Q .normal { a with defers := { target := .collected D, args := #[] } :: a.defers } W)
    (hstop : ∀ (D : Nat) (c : Code) (pre : List α) (W : World), w.heap.size ≤ D → Sp pre → Ix c pre W → W.heap[D]? = some (.deferred (some [])) → c.wpIn F n P Q { a with defers := { target := .collected D, args := #[] } :: a.defers } W) :
    (Code.rangeFunc g #[tv] assign body).wpIn F n P Q a w := by
  refine wpIn_rangeFunc (fun fn hfn => ?_)
  rw [hro]
  obtain ⟨D, hD⟩ : ∃ D, D = w.heap.size := ⟨_, rfl⟩
  obtain ⟨rc, hrc⟩ : ∃ rc : LoopState → Option Code → Loop, ∀ s c, rc s c = { state := s, pending := c, fn := fn, tmps := a.tmps, params := #[tv], assign := assign, body := body, defers := D } := ⟨fun s c => _, fun _ _ => rfl⟩
  have hent := run_enterLoop_outer (P := P) (w := w) fn a.tmps #[tv] assign body
  rw [← hD, ← hrc] at hent
  have hG1 : G w ((w.alloc (.deferred (some []))).alloc (.loop (rc .ready none))) := ((G.rf w).a _).a _
  have hB1 : Bk (D + 1) D (rc .ready none) ((w.alloc (.deferred (some []))).alloc (.loop (rc .ready none))) := by
    subst hD
    refine ⟨?_, (Below.heap_alloc _ _ _ (by simp)).trans (World.alloc_heap_new w _)⟩
    have := World.alloc_heap_new (w.alloc (.deferred (some []))) (.loop (rc .ready none))
    rwa [World.size_alloc] at this
  have hI1 : I [] ((w.alloc (.deferred (some []))).alloc (.loop (rc .ready none))) := hI.alloc _ (hI.alloc _ h0)
  generalize (w.alloc (.deferred (some []))).alloc (.loop (rc .ready none)) = W1 at *
  refine ⟨D + 1, [{ target := .collected D, args := #[] }], W1, { target := .fn (.func gf) lb, args := #[.func (.yield (D + 1)) #[] #[]] }, W1, gf, #[.func (.yield (D + 1)) #[] #[]] ++ lb, W1, hent, ?_, ?_, ?_, fun _ => h1, ?_⟩
  · simp only [resolve, hg]; simp [go_sem]
  · intro f' hf'; simp [Target.leads] at hf'; subst hf'; exact hFg
  · simp [invoke, go_sem, eg]
  refine (hseq (D + 1) (fun pre W => I pre W ∧ Bk (D + 1) D (rc .ready none) W) (fun pre W => ∃ c, Ix c pre W ∧ Bk (D + 1) D (rc .done (some c)) W) W1 (hb0.t hG1)
    (fun s A C h k => ⟨hIT _ hG1.size s A C h.1 k, h.2.kt k⟩) (fun s A C ⟨c, h, hb⟩ k => ⟨c, hIxT c _ hG1.size s A C h k, hb.kt k⟩) ?_ ⟨hI1, hB1⟩).mono ?_
  · rintro pre x W ⟨hi, hb⟩ hyx hlen
    have hy := run_yield (P := P) (args := #[ev x]) hb.1 (by rw [hrc]; rfl)
    rw [hrc] at hy
    refine ⟨fn, _, assign, body, hy, roundIn_of_wpIn hfn ?_⟩
    have e : ((#[tv] : Array Tmp).zip #[ev x]).foldl (fun t (p, v) => t.setIfInBounds p v) a.tmps = a.tmps.setIfInBounds tv (ev x) := by simp
    rw [e]
    refine hassign _ x W _ ?_
    have hlt : D + 1 < W.heap.size := (Array.getElem?_eq_some_iff.1 hb.1).1
    refine ⟨_, run_beginRound hb.1 (by rw [hrc]), ?_⟩
    have hbB := hb.put (by omega) { rc .ready none with state := .busy }
    have hKB : Kp W (W.putObj (D + 1) (.loop { rc .ready none with state := .busy })) := hKb _ _ _ _ (by omega) hb.1 rfl
    have hIB := hI.putObj (.loop { rc .ready none with state := .busy }) hi (by omega) hb.1 rfl
    have hYB := hYb x W (D + 1) _ (.loop { rc .ready none with state := .busy }) hb.1 rfl hyx
    refine wpIn_mono (hbody _ pre x _ hIB hYB hlen) ?_
    have fin : ∀ (j : Option Code) (W3 : World), KeepsFrom w.heap.size (W.putObj (D + 1) (.loop { rc .ready none with state := .busy })) W3 →
        (Instr.endRound (D + 1) j).run P W3 = .ok (.bool j.isNone) (W3.putObj (D + 1) (.loop (rc (if j.isNone then .ready else .done) j))) ∧ W3.heap[D + 1]? = some (.loop { rc .ready none with state := .busy }) ∧ Bk (D + 1) D (rc (if j.isNone then .ready else .done) j) (W3.putObj (D + 1) (.loop (rc (if j.isNone then .ready else .done) j))) := fun j W3 hk => by
      have hb3 := hbB.keeps hk (by omega) (by omega)
      have h := run_endRound (P := P) j hb3.1
      refine ⟨?_, hb3.1, hb3.put (by omega) _⟩
      rw [hrc] at h ⊢
      exact h
    rintro e a3 W3 hp
    cases e with
    | normal =>
      obtain ⟨hk, hkp, hi3⟩ := hp
      obtain ⟨hr, hl3, hb3⟩ := fin none W3 hk
      exact ⟨_, _, hr, .inl ⟨rfl, ⟨hI.putObj _ hi3 (by omega) hl3 rfl, hb3⟩, hKt hKB (hKt hkp (hKb _ _ _ _ (by omega) hl3 rfl))⟩⟩
    | ret =>
      obtain ⟨hk, hi3⟩ := hp
      obtain ⟨hr, hl3, hb3⟩ := fin (some .ret) W3 hk
      exact ⟨_, _, hr, .inr ⟨rfl, .ret, (hIx _).putObj _ hi3 (by omega) hl3 rfl, hb3⟩⟩
    | exit id =>
      obtain ⟨hk, hi3⟩ := hp
      obtain ⟨hr, hl3, hb3⟩ := fin (some (.exit id)) W3 hk
      exact ⟨_, _, hr, .inr ⟨rfl, .exit id, (hIx _).putObj _ hi3 (by omega) hl3 rfl, hb3⟩⟩
    | goto t =>
      obtain ⟨hk, hi3⟩ := hp
      obtain ⟨hr, hl3, hb3⟩ := fin (some (.goto t)) W3 hk
      exact ⟨_, _, hr, .inr ⟨rfl, .goto t, (hIx _).putObj _ hi3 (by omega) hl3 rfl, hb3⟩⟩
    | panic ch => exact hp.elim
    | outgrown => exact hp.elim
  · rintro e W2 ⟨⟨v, rfl⟩, (⟨xs, hS, hi, hb⟩ | ⟨pre, hSp, c, hi, hb⟩)⟩
    · have h := run_endLoop (P := P) hb.1 (by rw [hrc]; simp)
      rw [hrc] at h
      exact ⟨none, _, h, hdone _ xs _ (by omega) hS (hI.putObj _ hi (by omega) hb.1 rfl) ((World.putObj_heap_other (by omega)).trans hb.2)⟩
    · have h := run_endLoop (P := P) hb.1 (by rw [hrc]; simp)
      rw [hrc] at h
      exact ⟨some c, _, h, hstop _ c pre _ (by omega) hSp ((hIx c).putObj _ hi (by omega) hb.1 rfl) ((World.putObj_heap_other (by omega)).trans hb.2)⟩
end
end Go.Proofs.YtnkmcoljijmgpaaGreat

set_option linter.unusedSimpArgs false
set_option linter.unusedVariables false
namespace Go.Proofs.YtnkmcoljijmgpaaGreat
open Go.RowKit Go.Shelf Go.Sort Go.Maps
attribute [local go_sem] Oper.semAt_some wide_fn wide_dep wideR_fn wideR_dep
theorem i64_and1 (n : Int) : bits .and .i64 n 1 = n % 2 := by
  have h1 : (BitVec.ofInt 64 1).toNat = 2 ^ 1 - 1 := by decide
  have key : (BitVec.ofInt 64 n &&& BitVec.ofInt 64 1).toNat = (n % ((2 ^ 64 : Nat) : Int)).toNat % 2 ^ 1 := by
    rw [BitVec.toNat_and, BitVec.toNat_ofInt, h1, Nat.and_two_pow_sub_one_eq_mod]
  show IntKind.i64.wrap ((BitVec.ofInt 64 n &&& BitVec.ofInt 64 1).toNat : Nat) = n % 2
  rw [key, IntKind.wrap_i64]
  omega
/-- protest i is upheld in case n -/
def bitB (n i : Nat) : Bool := decide (n / 2 ^ i % 2 = 1)
theorem bit_int (n i : Nat) : ((n : Int) / 2 ^ i % 2 == 1) = bitB n i := by
  have e : ((n : Int) / 2 ^ i % 2) = ((n / 2 ^ i % 2 : Nat) : Int) := by simp
  rw [e]
  unfold bitB
  by_cases h : n / 2 ^ i % 2 = 1
  · rw [h]; simp
  · have h2 : ((n / 2 ^ i % 2 : Nat) : Int) ≠ 1 := by omega
    simp only [h, decide_false, beq_eq_false_iff_ne]
    exact h2
/-- who is struck in case n, of the first k protests -/
def stTo (ps : List Int) (n : Nat) : Nat → List Int
  | 0 => []
  | k + 1 => if bitB n k = true then stTo ps n k ++ [ps.getD k 0] else stTo ps n k
def stOf (ps : List Int) (n : Nat) : List Int := stTo ps n ps.length
def caseL (ps : List Int) : List (List Int) := (List.range (2 ^ ps.length)).map (stOf ps)
theorem stTo_len (ps : List Int) (n : Nat) : ∀ k, (stTo ps n k).length ≤ k
  | 0 => Nat.le_refl _
  | k + 1 => by
    have := stTo_len ps n k
    unfold stTo
    split
    · rw [List.length_append]; simp; omega
    · omega
theorem caseL_len (ps : List Int) : (caseL ps).length = 2 ^ ps.length := by simp [caseL]
theorem caseL_take (ps : List Int) {k : Nat} (h : k < 2 ^ ps.length) : (caseL ps).take (k + 1) = (caseL ps).take k ++ [stOf ps k] := by
  have hl : k < (caseL ps).length := by rw [caseL_len]; exact h
  rw [List.take_add_one, List.getElem?_eq_getElem hl]
  simp [caseL]
/-- what a case of protests hands: the birds that are struck -/
structure Yd where
  a : Option Addr
  c : Nat
  st : List Int
def Yd.v (x : Yd) : Value := .slice x.a x.st.length x.c
def YdAt (x : Yd) (W : World) : Prop := IntsAt W x.a x.st ∧ x.st.length ≤ 4
/-- older blocks, but some, are as they were -/
def KP (B : Nat) (C : Nat → Prop) (A W : World) : Prop := A.heap.size ≤ W.heap.size ∧ ∀ i, i < B → ¬ C i → W.heap[i]? = A.heap[i]?
theorem KP.rf (B : Nat) (C : Nat → Prop) (A : World) : KP B C A A := ⟨Nat.le_refl _, fun _ _ _ => rfl⟩
theorem KP.t {B : Nat} {C : Nat → Prop} {A A' A'' : World} (h : KP B C A A') (k : KP B C A' A'') : KP B C A A'' := ⟨Nat.le_trans h.1 k.1, fun i hi hc => (k.2 i hi hc).trans (h.2 i hi hc)⟩
theorem KP.kt {B B' : Nat} {C : Nat → Prop} {A W : World} {T : TypeId → Prop} (h : Kt T B' A W) (hb : B ≤ B') (hA : B ≤ A.heap.size) : KP B C A W := ⟨h.size, fun i hi hc => by
  have hi2 : i < A.heap.size := by omega
  rw [h.block i _ (Array.getElem?_eq_getElem hi2) (.inl (by omega)), Array.getElem?_eq_getElem hi2]⟩
theorem KP.blk {B : Nat} {C : Nat → Prop} {A W : World} (h : KP B C A W) {g : Nat} {t : TypeId} {cs : Array Value} (b : Blk A g t cs) (hg : g < B) (hc : ¬ C g) : Blk W g t cs := (h.2 g hg hc).trans b
theorem KP.ints {B : Nat} {C : Nat → Prop} {A W : World} (h : KP B C A W) {a : Option Addr} {l : List Int} (hi : IntsAt A a l) (hg : l = [] ∨ ∀ b o, a = some ⟨b, o, none⟩ → b < B ∧ ¬ C b) : IntsAt W a l := by
  rcases hi with hi | ⟨b, off, h1, h2, h3⟩
  · exact .inl hi
  · rcases hg with hg | hg
    · exact .inl hg
    refine .inr ⟨b, off, h1, Nat.lt_of_lt_of_le h2 h.1, fun k hk => ?_⟩
    have e := h.2 b (hg b off h1).1 (hg b off h1).2
    have e3 := h3 k hk
    simp only [World.cell?] at e3 ⊢
    rw [e]
    exact e3
theorem Fr.kt {R : Nat → Prop} {A B D : World} {T : TypeId → Prop} {b : Nat} (h : Fr R A B) (k : Kt T b B D) (hb : A.heap.size ≤ b) : Fr R A D := ⟨k.os.trans h.os, k.tape.trans h.tape, k.output.trans h.output, Nat.le_trans h.size k.size, fun i hi hn => by
  have hi2 : i < B.heap.size := Nat.lt_of_lt_of_le hi h.size
  rw [k.block i _ (Array.getElem?_eq_getElem hi2) (.inl (by omega)), ← Array.getElem?_eq_getElem hi2]
  exact h.block i hi hn⟩
theorem KP.put (B : Nat) (C : Nat → Prop) (W : World) (l : Nat) (o o' : Obj) (hl : B ≤ l) : KP B C W (W.putObj l o') := ⟨by simp [World.putObj], fun i hi _ => World.putObj_heap_other (by omega)⟩
theorem YdAt.put (x : Yd) (W : World) (l : Nat) (o o' : Obj) (ho : W.heap[l]? = some o) (hc : o.isCells = false) (h : YdAt x W) : YdAt x (W.putObj l o') := by
  refine ⟨?_, h.2⟩
  rcases h.1 with h | ⟨b, off, h1, h2, h3⟩
  · exact .inl h
  · refine .inr ⟨b, off, h1, by simpa [World.putObj] using h2, fun k hk => ?_⟩
    have h4 := h3 k hk
    have hne : b ≠ l := fun e => by
      subst e
      simp only [World.cell?, ho] at h4
      cases o <;> simp [Obj.isCells] at hc h4
    have e := World.putObj_heap_other (w := W) (o := o') hne
    simp only [World.cell?] at h4 ⊢
    rw [e]
    exact h4
theorem Fr.kp {C : Nat → Prop} {A B : World} (h : Fr C A B) (b : Nat) (hb : b ≤ A.heap.size) : KP b C A B := ⟨h.size, fun i hi hc => h.block i (by omega) hc⟩
theorem kt_grown {X Y : World} {b B n : Nat} {v : Value} {xs : List Value} (h : X.ownsRow b 3 1 v n xs) (hb : B ≤ b) (hg : X.grownBy Y v.ownBlock) : Kt (· = 3) B X Y := ⟨hg.os, hg.tape, hg.output, hg.size, fun i o hi hc => by
  refine (hg.block i (Array.getElem?_eq_some_iff.1 hi).1 (fun e => ?_)).trans hi
  have e2 := own_base h e.symm
  rcases hc with hc | hc
  · omega
  · obtain ⟨c, t, f, h5⟩ := own_cells h e.symm
    rcases h.2 with ⟨rfl, _⟩ | ⟨g, cap, cur, rfl, _, hgb, _⟩
    · cases e
    · have e3 : i = g := by injection e
      subst e3
      rw [hgb] at hi
      cases hi
      exact hc _ _ _ rfl rfl⟩
set_option maxRecDepth 100000 in
set_option maxHeartbeats 8000000 in
theorem cases_seq (n : Nat) (hn : 1 ≤ n) (K : Nat) (C : Nat → Prop) (f : Fu) (w : World) (hB : Blk w K 85 f.v) (hp : IntsAt w f.pa f.ps) (hl : f.ps.length ≤ 4) (hK : ¬ C K) (hpc : f.ps = [] ∨ ∀ b o, f.pa = some ⟨b, o, none⟩ → b < w.heap.size ∧ ¬ C b) :
    SeqY (· = 3) Fence.wide n Tryz.prog 84 #[.pointer (some ⟨K, 0, none⟩)] Yd.v YdAt (KP w.heap.size C) (fun xs => xs.map Yd.st = caseL f.ps) (fun _ => True) (2 ^ f.ps.length) w := by
  intro l J Jx W hW hJ hJx hY h0
  have hBW := hB.keep hW
  have hpW := hp.below hW
  have hwW := hW.size
  have hKw := hB.lt
  have HCT := Lib.hid (fun (k : Nat) (hk : k < 2 ^ f.ps.length) => caseL_take f.ps hk)
  have HCL : Hid ((caseL f.ps).take (2 ^ f.ps.length) = caseL f.ps) := by rw [← caseL_len]; exact List.take_length
  generalize caseL f.ps = CL at *
  clear hB hp hW
  obtain ⟨⟨ystake, ycut, ykind, yta, ytc, ytable, yquota, yfirst⟩, fa, fc, rs, pa, pc, ps⟩ := f
  unfold Fu.v at *
  dsimp only at *
  have m7 := hBW.cell 7
  have lK := hBW.lt
  have hp16 : 2 ^ ps.length ≤ 16 := Nat.pow_le_pow_right (n := 2) (by decide) hl
  refine callsIn_of_wp Tryz.func84 rfl trivial ?_ rfl
  simp only [Tryz.ntmps84, List.size_toArray, List.length_cons, List.length_nil, Nat.reduceAdd, Nat.reduceSub, Array.replicate_succ, Array.replicate_zero, List.push_toArray, List.append_toArray, List.nil_append, List.cons_append]
  gi_wp2_with fail
  have hw64 : wrap64 ((2 : Int) ^ ps.length) = ((2 ^ ps.length : Nat) : Int) := by
    have e : ((2 : Int) ^ ps.length) = ((2 ^ ps.length : Nat) : Int) := by simp
    rw [e]
    have h5 : ∀ N : Nat, N ≤ 16 → wrap64 (N : Int) = N := fun N h => IntWalk.wrap64_in _ (by omega)
    exact h5 _ hp16
  rw [hw64]
  clear hw64
  obtain ⟨NN, hNN⟩ : ∃ NN, NN = 2 ^ ps.length := ⟨_, rfl⟩
  rw [← hNN] at hp16 HCT HCL hY ⊢
  have h00 : Hid (∃ p' : List Yd, p'.map Yd.st = CL.take 0 ∧ J p' W) := ⟨[], by simp, h0⟩
  have HNN := Lib.hid hNN
  clear hNN h0
  have HY := Lib.hid hY
  have HpW := Lib.hid hpW
  have hand := i64_and1
  clear hY hpW m7
  gi_loopw [11] (fun i wr => ∃ k : Nat, k ≤ NN ∧ i = .int .i64 k ∧ Hid (∃ p' : List Yd, p'.map Yd.st = CL.take k ∧ J p' wr) ∧ Hid (KP w.heap.size C W wr)) (fun i _ => NN - (intOf i).toNat)
  case atStart => exact ⟨0, Nat.zero_le _, rfl, h00, KP.rf _ _ _⟩
  case round =>
    clear h00
    obtain ⟨k, hk, rfl, HJ, HK⟩ := hrel
    obtain ⟨wo, rfl⟩ : ∃ wo, wo = wr := ⟨_, rfl⟩
    by_cases hlt : k < NN
    · have hki : (k : Int) < NN := by omega
      have bK := HK.out.blk hBW hKw hK
      have m7 := bK.cell 7
      have lK2 := bK.lt
      have hWo : W.heap.size ≤ wo.heap.size := HK.out.1
      gi_wp2_with fail
      clear m7
      gi_loopw [4, 17] (fun v i wi => ∃ j : Nat, j ≤ ps.length ∧ i = .int .i64 j ∧ Hid (wi.ownsRow wo.heap.size 3 1 v (stTo ps k j).length (iv (stTo ps k j))) ∧ Hid (Kt (· = 3) W.heap.size wo wi)) (fun _ i _ => ps.length - (intOf i).toNat)
      case atStart => exact ⟨0, Nat.zero_le _, rfl, World.ownsRow_nil _ _ _ _, Kt.rf _ _ _⟩
      case round =>
        obtain ⟨j, hj, rfl, HO, HT⟩ := hrel
        obtain ⟨wi, rfl⟩ : ∃ wi, wi = wr := ⟨_, rfl⟩
        obtain ⟨va, vc, rfl⟩ := own_slice HO.out
        have HKI := Lib.hid (HK.out.t (KP.kt (C := C) HT.out hwW (by omega)))
        by_cases hjl : j < ps.length
        · have hji : (j : Int) < ps.length := by omega
          rcases HKI.out.ints HpW.out hpc with h | ⟨gb, off, rfl, lgb, hcell⟩
          · rw [h] at hjl; simp at hjl
          have q0 := hcell j hjl
          have hst : stTo ps k (j + 1) = if bitB k j = true then stTo ps k j ++ [ps.getD j 0] else stTo ps k j := rfl
          have hjn : j ≤ 64 := by omega
          have hj0 : (0 : Int) ≤ j := by omega
          have hj64 : (j : Int) ≤ 64 := by omega
          have hbit := bit_int k j
          have hsl := stTo_len ps k j
          obtain ⟨z, hz⟩ : ∃ z, z = ps.getD j 0 := ⟨_, rfl⟩
          rw [← hz] at q0 hst
          clear hz hcell
          cases hb : bitB k j
          · rw [hb] at hbit hst
            have HST := Lib.hid (show stTo ps k (j + 1) = stTo ps k j by simpa using hst)
            clear hst hb
            gi_wp2_with fail
            go_roundw
            case rel => exact ⟨j + 1, by omega, by go_num, by rw [HST.out]; exact HO.out, HT.out⟩
            case measure => simp [intOf] <;> omega
          · rw [hb] at hbit hst
            have HST := Lib.hid (show stTo ps k (j + 1) = stTo ps k j ++ [z] by simpa using hst)
            clear hst hb
            obtain ⟨i0, hi0, hz0, hz1, hz2⟩ := info_parts info3
            have hsz := HT.out.size
            have HOA := Lib.hid (own_G HO.out ((G.rf wi).a (.cells #[.int .i64 z] 3)))
            obtain ⟨q, hq⟩ : ∃ q, q = stTo ps k j := ⟨_, rfl⟩
            rw [← hq] at HOA HST hsl ⊢
            clear hq
            gi_wp2_with (gi_at_builtin; refine wpListIn_append_own _ rfl _ _ 24 rfl wo.heap.size 3 i0 (.int .i64 0) 1 8 Tryz.underlying24 hi0 hz0 hz1 hz2 rfl (by decide) _ q.length (iv q) rfl HOA.out ⟨wi.heap.size, 0, none⟩ 1 1 [.int .i64 z] rfl rfl (cell_one_new _ _ _) (by simp [Value.oneCell']) (by unfold maxLen; omega) (by omega) (by simp only [World.alloc, Array.size_push]; omega) ?_; intro v9 w9 hown9 hg9 hnil9; go_frame)
            go_roundw
            case rel => exact ⟨j + 1, by omega, by go_num, by rw [HST.out, List.length_append, iv_snoc]; exact hown9, (HT.out.t (G.kt ((G.rf wi).a _))).t (kt_grown HOA.out hWo hg9)⟩
            case measure => simp [intOf] <;> omega
        · obtain rfl : j = ps.length := by omega
          have hji : ¬ ((ps.length : Nat) : Int) < ps.length := by omega
          obtain ⟨p', hp', hj'⟩ := HJ.out
          have hji2 := hJ p' wo wi hj' HT.out
          have hlen : p'.length < NN := by
            have := congrArg List.length hp'
            rw [List.length_map, List.length_take] at this
            omega
          have hct := HCT.out k hlt
          have hyi : IntsAt wi va (stTo ps k ps.length) := by
            obtain ⟨a, c, e, hi⟩ := own_ints HO.out
            injection e with e1 e2 e3
            rw [e1]
            exact hi
          obtain ⟨fn, tmps, assign, body, hy', hR⟩ := HY.out p' ⟨va, vc, stOf ps k⟩ wi hji2 ⟨hyi, Nat.le_trans (stTo_len ps k _) hl⟩ hlen
          dsimp only [Yd.v] at hy'
          have hR2 := Lib.hid hR
          have HCTT := Lib.hid hct
          clear hR hct hji2 hj'
          unfold stOf at hy'
          have HPP := Lib.hid (show ((p' ++ [(⟨va, vc, stOf ps k⟩ : Yd)]).map Yd.st) = CL.take (k + 1) by rw [List.map_append, hp', HCTT.out]; rfl)
          clear hp' hyi
          gi_wp2_with fail
          refine hR2.out.mono ?_
          rintro e W3 (⟨rfl, hJ3, hk3⟩ | ⟨rfl, hJx3⟩)
          · gi_wp2_with fail
            go_roundw
            case rel => exact ⟨k + 1, by omega, by go_num, ⟨_, HPP.out, hJ3⟩, HKI.out.t hk3⟩
            case measure => simp [intOf] <;> omega
          · gi_wp2_with fail
            refine bodyPost_ret (results_none rfl _ _ _) rfl ?_
            exact ⟨⟨_, rfl⟩, .inr ⟨_, trivial, hJx3⟩⟩
    · obtain rfl : k = NN := by omega
      have hki : ¬ ((k : Nat) : Int) < k := by omega
      obtain ⟨p', hp', hj'⟩ := HJ.out
      rw [HCL.out] at hp'
      gi_wp2_with fail
      go_end0
      exact ⟨⟨_, rfl⟩, .inl ⟨p', hp', hj'⟩⟩
end Go.Proofs.YtnkmcoljijmgpaaGreat

set_option linter.unusedSimpArgs false
set_option linter.unusedVariables false
namespace Go.Proofs.YtnkmcoljijmgpaaGreat
open Go.RowKit Go.Shelf Go.Sort Go.Maps
attribute [local go_sem] Oper.semAt_some wide_fn wide_dep wideR_fn wideR_dep
set_option maxRecDepth 100000 in
set_option maxHeartbeats 4000000 in
theorem res25 (tmps : Array Value) (w : World) (g : Nat) (n : Int) {REL : Array Value} (hR : Is2 REL) (h : tmps.getD 6 undef = .pointer (some ⟨g, 0, none⟩)) (h7 : tmps.getD 7 undef = .int .i64 n) (hB : Blk w g 62 REL) :
    (results Tryz.f25 tmps).run Tryz.prog w = .ok (.tuple #[.agg REL, .int .i64 n]) w := by
  obtain ⟨x0, x1, rfl⟩ := hR
  have c0 := hB.cell 0
  have c1 := hB.cell 1
  clear hB
  have hr : Tryz.f25.results = #[.cell 6 62, .tmp 7] := rfl
  have h' : tmps[6]?.getD undef = .pointer (some ⟨g, 0, none⟩) := by simpa using h
  have h7' : tmps[7]?.getD undef = .int .i64 n := by simpa using h7
  simp only [results, hr]
  go_simp
theorem cases_any (v0 v1 v2 v3 v4 v5 v6 v7 : Value) (w : World) :
    Calls Tryz.prog 60 #[.agg #[v0, v1, v2, v3, v4, v5, v6, v7]] w fun e w' => e = .returned (.func (.func 84) #[] #[.pointer (some ⟨w.heap.size, 0, none⟩)]) ∧ w' = w.alloc (.cells #[v0, v1, v2, v3, v4, v5, v6, v7] 85) := by
  go_enter Tryz.func60, Tryz.ntmps60
  go_wp2
  go_ret
  exact ⟨rfl, rfl⟩
def canLo (f : Fu) (b : Int) (sts : List (List Int)) : Int := sts.foldl (fun a st => min a (wonAt (wonL f st) b)) (wonAt (wonL f []) b)
def canHi (f : Fu) (b : Int) (sts : List (List Int)) : Int := sts.foldl (fun a st => max a (wonAt (wonL f st) b)) (wonAt (wonL f []) b)
theorem has_bd {r : Ra} {p b : Int} (hr : raceB r = true) (h : hasB (runners r p) b = true) : 0 ≤ b ∧ b ≤ 9999 := by
  unfold hasB anyU at h
  obtain ⟨i, hi, he⟩ := List.any_eq_true.1 h
  have hi2 := List.mem_range.1 hi
  rw [List.getD_eq_getElem?_getD, List.getElem?_eq_getElem hi2] at he
  have hm := racers_bd hr _ (runners_sub (List.getElem_mem hi2)).1
  simp at he
  rw [he] at hm
  exact hm
theorem canLo_snoc (f : Fu) (b : Int) (l : List (List Int)) (st : List Int) : canLo f b (l ++ [st]) = min (canLo f b l) (wonAt (wonL f st) b) := by simp [canLo]
theorem canHi_snoc (f : Fu) (b : Int) (l : List (List Int)) (st : List Int) : canHi f b (l ++ [st]) = max (canHi f b l) (wonAt (wonL f st) b) := by simp [canHi]
def CanPost (r : Ra) (p b : Int) (w : World) (e : Ending) (w' : World) : Prop := G w w' ∧ ((qE r p [b] ≠ 0 ∧ e = .returned (.tuple #[.agg #[.int .i64 0, .int .i64 0], .int .i64 (qE r p [b])])) ∨ (qE r p [b] = 0 ∧ e = .returned (.tuple #[.agg #[.int .i64 (canLo (fuOf r p none 0) b (caseL r.protests)), .int .i64 (canHi (fuOf r p none 0) b (caseL r.protests))], .int .i64 0])))
set_option maxRecDepth 100000 in
set_option maxHeartbeats 8000000 in
theorem Can_any (r : Ra) (p b : Int) (w : World) (h : r.At w) : Calls Tryz.prog 25 #[.agg r.v, .int .i64 p, .int .i64 b] w (CanPost r p b w) := by
  have HQ := Lib.hid (fun (W : World) (hW : G w W) (ba : Option Addr) (hb : IntsAt W ba [b]) => question_any r p [b] ba 1 W (h.keep hW) hb (by simp))
  have HE : Hid (qE r p [b] ≠ 0 → ∀ W', G w W' → CanPost r p b w (.returned (.tuple #[.agg #[.int .i64 0, .int .i64 0], .int .i64 (qE r p [b])])) W') := fun a W' b => ⟨b, .inl ⟨a, rfl⟩⟩
  have HS : Hid (qE r p [b] = 0 → ∀ fa fc W', G w W' → CanPost r p b w (.returned (.tuple #[.agg #[.int .i64 (canLo (fuOf r p fa fc) b (caseL r.protests)), .int .i64 (canHi (fuOf r p fa fc) b (caseL r.protests))], .int .i64 0])) W') := fun a fa fc W' b => ⟨b, .inr ⟨a, rfl⟩⟩
  have HC := Lib.hid (fun (hq : qE r p [b] = 0) (W : World) (hW : G w W) (B : Nat) (fa : Option Addr) (fc : Nat) (ho : W.ownsRow B 60 5 (.slice fa (runners r p).length fc) (runners r p).length (rcV (runners r p))) => gf_of (qE_parts hq).1 (qE_parts hq).2 (h.keep hW) ho)
  unfold QPost at HQ
  have hv : ∀ fa fc, (fuOf r p fa fc).v = #[.int .i64 (poolAt r p).stake, .int .i64 (poolAt r p).cut, .int .i64 (poolAt r p).kind, .slice (poolAt r p).ta (poolAt r p).table.length (poolAt r p).tc, .int .i64 (poolAt r p).quota, .bool (poolAt r p).first, .slice fa (runners r p).length fc, .slice r.ta r.protests.length r.tc] := fun _ _ => rfl
  have hNo : ∀ W, ¬ CanPost r p b w .outgrown W := fun W ⟨_, hh⟩ => by rcases hh with ⟨_, e⟩ | ⟨_, e⟩ <;> cases e
  have hprot := h.ts
  have hpl4 : qE r p [b] = 0 → r.protests.length ≤ 4 := fun hq => race_np (qE_parts hq).1
  have hbb : qE r p [b] = 0 → 0 ≤ b ∧ b ≤ 9999 := fun hq => by
    have h1 := qE_parts hq
    unfold qE at hq
    rw [if_pos h1.1, if_pos h1.2] at hq
    by_cases h3 : allU (fun i => hasB (runners r p) (([b] : List Int).getD i 0)) 1 = true
    · have h4 := allU_iff.1 h3 0 (by decide)
      exact has_bd h1.1 h4
    · rw [if_neg (by simpa using h3)] at hq
      cases hq
  generalize CanPost r p b w = PP at *
  clear h
  obtain ⟨W1, hW1⟩ : ∃ W1, W1 = ((w.alloc (.cells #[.slice r.ra r.racers.length r.rc, .slice r.pa r.pools.length r.pc, .slice r.ta r.protests.length r.tc] 26)).alloc (.cells #[.int .i64 b] 3)).alloc (.cells #[.int .i64 0, .int .i64 0] 62) := ⟨_, rfl⟩
  have hs1 : (w.alloc (.cells #[.slice r.ra r.racers.length r.rc, .slice r.pa r.pools.length r.pc, .slice r.ta r.protests.length r.tc] 26)).heap.size = w.heap.size + 1 := Array.size_push ..
  have hs2 : ((w.alloc (.cells #[.slice r.ra r.racers.length r.rc, .slice r.pa r.pools.length r.pc, .slice r.ta r.protests.length r.tc] 26)).alloc (.cells #[.int .i64 b] 3)).heap.size = w.heap.size + 1 + 1 := by rw [World.size_alloc, hs1]
  have g0 : G w W1 := by rw [hW1]; exact (((G.rf _).a _).a _).a _
  have b0 : Blk W1 w.heap.size 26 #[.slice r.ra r.racers.length r.rc, .slice r.pa r.pools.length r.pc, .slice r.ta r.protests.length r.tc] := by rw [hW1]; exact ((Blk.new _ _ _).alloc _).alloc _
  have b1 : Blk W1 (w.heap.size + 1) 3 #[.int .i64 b] := by
    have := Blk.new (w.alloc (.cells #[.slice r.ra r.racers.length r.rc, .slice r.pa r.pools.length r.pc, .slice r.ta r.protests.length r.tc] 26)) 3 #[.int .i64 b]
    rw [hs1] at this
    rw [hW1]
    exact this.alloc _
  have bz : Blk W1 (w.heap.size + 1 + 1) 62 #[.int .i64 0, .int .i64 0] := by
    have := Blk.new ((w.alloc (.cells #[.slice r.ra r.racers.length r.rc, .slice r.pa r.pools.length r.pc, .slice r.ta r.protests.length r.tc] 26)).alloc (.cells #[.int .i64 b] 3)) 62 #[.int .i64 0, .int .i64 0]
    rw [hs2] at this
    rw [hW1]
    exact this
  have hsz1 : W1.heap.size = w.heap.size + 1 + 1 + 1 := by rw [hW1, World.size_alloc, hs2]
  clear hs1 hs2
  have hrv : r.v = #[.slice r.ra r.racers.length r.rc, .slice r.pa r.pools.length r.pc, .slice r.ta r.protests.length r.tc] := rfl
  rw [hrv] at HQ ⊢
  clear hrv
  generalize hQE : qE r p [b] = QE at *
  refine (callsIn_wide (n := 4)).1 ?_
  refine callsIn_of_wp_marks Tryz.func25 rfl trivial ?_ rfl
  simp only [Tryz.ntmps25, List.size_toArray, List.length_cons, List.length_nil, Nat.reduceAdd, Nat.reduceSub, Array.replicate_succ, Array.replicate_zero, List.push_toArray, List.append_toArray, List.nil_append, List.cons_append]
  have m0 := b0.cell 0
  have m1 := b0.cell 1
  have m2 := b0.cell 2
  have l0 := b0.lt
  have n0 := b1.cell 0
  have ln := b1.lt
  have gA : G W1 (W1.alloc (.cells #[.int .i64 b] 3)) := (G.rf W1).a _
  have bA := Blk.new W1 3 #[.int .i64 b]
  rw [hsz1] at bA
  have hiA : IntsAt (W1.alloc (.cells #[.int .i64 b] 3)) (some ⟨w.heap.size + 1 + 1 + 1, 0, none⟩) [b] := .inr ⟨_, 0, rfl, bA.lt, fun k hk => by
    obtain rfl : k = 0 := by simpa using hk
    exact bA.cell 0⟩
  by_cases hq : QE = 0
  · have HQ1 : Hid (∀ W, G W1 W → ∀ ba, IntsAt W ba [b] → Calls Tryz.prog 46 #[.agg #[.slice r.ra r.racers.length r.rc, .slice r.pa r.pools.length r.pc, .slice r.ta r.protests.length r.tc], .int .i64 p, .slice ba 1 1] W fun e w' => ∃ fa fc, e = .returned (.tuple #[.agg (fuOf r p fa fc).v, .int .i64 0]) ∧ w'.ownsRow W.heap.size 60 5 (.slice fa (runners r p).length fc) (runners r p).length (rcV (runners r p)) ∧ G W w') := fun W hW ba hba => by
      refine (HQ.out W (g0.t hW) ba hba).mono ?_
      rintro e w' ⟨hG, hh⟩
      rcases hh with ⟨a, _⟩ | ⟨_, fa, fc, a, b⟩
      · exact absurd hq a
      · exact ⟨fa, fc, a, b, hG⟩
    simp only [hv] at HQ1
    have HQ3 := Lib.hid (HQ1.out _ gA _ hiA)
    clear HQ HE HQ1 hiA bA
    have HPL := Lib.hid (hpl4 hq)
    have hb0 := hbb hq
    clear hpl4 hbb
    rw [hW1] at m0 m1 m2 l0 n0 ln
    gi_wp2_with (gi_at_call 46; rw [← hW1]; refine (callsIn_wide.2 HQ3.out).mono ?_; rintro e w2 ⟨fa, fc, rfl, ho2, hG2⟩; clear m0 m1 m2 l0 n0 ln HQ3)
    have ga := (G.rf w2).a (.cells #[.int .i64 (poolAt r p).stake, .int .i64 (poolAt r p).cut, .int .i64 (poolAt r p).kind, .slice (poolAt r p).ta (poolAt r p).table.length (poolAt r p).tc, .int .i64 (poolAt r p).quota, .bool (poolAt r p).first, .slice fa (runners r p).length fc, .slice r.ta r.protests.length r.tc] 85)
    have bK : Blk (w2.alloc (.cells #[.int .i64 (poolAt r p).stake, .int .i64 (poolAt r p).cut, .int .i64 (poolAt r p).kind, .slice (poolAt r p).ta (poolAt r p).table.length (poolAt r p).tc, .int .i64 (poolAt r p).quota, .bool (poolAt r p).first, .slice fa (runners r p).length fc, .slice r.ta r.protests.length r.tc] 85)) w2.heap.size 85 #[.int .i64 (poolAt r p).stake, .int .i64 (poolAt r p).cut, .int .i64 (poolAt r p).kind, .slice (poolAt r p).ta (poolAt r p).table.length (poolAt r p).tc, .int .i64 (poolAt r p).quota, .bool (poolAt r p).first, .slice fa (runners r p).length fc, .slice r.ta r.protests.length r.tc] := Blk.new _ _ _
    have g3 := ((g0.t gA).t hG2).t ga
    have hgf := HC.out hq _ g3 _ fa fc (own_G ho2 ga)
    have bz3 := ((bz.keep gA).keep hG2).keep ga
    have b13 := ((b1.keep gA).keep hG2).keep ga
    have hKz : w.heap.size + 1 + 1 < w2.heap.size := ((bz.keep gA).keep hG2).lt
    clear ho2 ga HC hG2 bz b1 b0 gA hW1 hsz1
    obtain ⟨K, hK⟩ : ∃ K, K = w2.heap.size := ⟨_, rfl⟩
    rw [← hK] at bK hKz ⊢
    clear hK
    generalize w2.alloc (.cells #[.int .i64 (poolAt r p).stake, .int .i64 (poolAt r p).cut, .int .i64 (poolAt r p).kind, .slice (poolAt r p).ta (poolAt r p).table.length (poolAt r p).tc, .int .i64 (poolAt r p).quota, .bool (poolAt r p).first, .slice fa (runners r p).length fc, .slice r.ta r.protests.length r.tc] 85) = w3 at *
    have HS2 := Lib.hid (HS.out hq fa fc)
    have HWo := Lib.hid (fun (W : World) (hW : G w3 W) (st : List Int) (sa : Option Addr) (sc : Nat) (hi : IntsAt W sa st) (hl : st.length ≤ 1000) => (hgf.keep hW).won st sa sc hi hl)
    obtain ⟨fu, hfu⟩ : ∃ fu, fu = fuOf r p fa fc := ⟨_, rfl⟩
    have hfv : fu.v = #[.int .i64 (poolAt r p).stake, .int .i64 (poolAt r p).cut, .int .i64 (poolAt r p).kind, .slice (poolAt r p).ta (poolAt r p).table.length (poolAt r p).tc, .int .i64 (poolAt r p).quota, .bool (poolAt r p).first, .slice fa (runners r p).length fc, .slice r.ta r.protests.length r.tc] := by rw [hfu]; exact hv fa fc
    have hfp : fu.pa = r.ta := by rw [hfu]; rfl
    have hfs : fu.ps = r.protests := by rw [hfu]; rfl
    rw [← hfu] at HS2 HWo hgf
    rw [hfv] at HWo
    clear hv HS hfu
    have hSk : ∀ W', G w3 W' → Blk W' K 85 #[.int .i64 (poolAt r p).stake, .int .i64 (poolAt r p).cut, .int .i64 (poolAt r p).kind, .slice (poolAt r p).ta (poolAt r p).table.length (poolAt r p).tc, .int .i64 (poolAt r p).quota, .bool (poolAt r p).first, .slice fa (runners r p).length fc, .slice r.ta r.protests.length r.tc] ∧ Blk W' (w.heap.size + 1) 3 #[.int .i64 b] := fun W' hW => ⟨bK.keep hW, b13.keep hW⟩
    refine wpIn_region_Y (l := none) (S := fun W' => Blk W' K 85 #[.int .i64 (poolAt r p).stake, .int .i64 (poolAt r p).cut, .int .i64 (poolAt r p).kind, .slice (poolAt r p).ta (poolAt r p).table.length (poolAt r p).tc, .int .i64 (poolAt r p).quota, .bool (poolAt r p).first, .slice fa (runners r p).length fc, .slice r.ta r.protests.length r.tc] ∧ Blk W' (w.heap.size + 1) 3 #[.int .i64 b]) 4 5 rfl (by kernel_rfl) (fun ⟨_, _, h⟩ => hNo _ h) (by kernel_rfl) (hSk _ (G.rf _).d) (fun hS => ?_)
    have ga := (G.rf w3).d
    refine wpAnyY_take (i := 0) (v := ?_) rfl (by kernel_rfl) (by kernel_rfl) (by kernel_rfl) (by kernel_rfl) (fun _ _ _ h => h) (Or.inl ⟨by kernel_rfl, ?_⟩) hS ?_
    rotate_left
    · intro w' hSw; have m0 := hSw.1.cell 0; have m1 := hSw.1.cell 1; have m2 := hSw.1.cell 2; have m3 := hSw.1.cell 3; have m4 := hSw.1.cell 4; have m5 := hSw.1.cell 5; have m6 := hSw.1.cell 6; have m7 := hSw.1.cell 7; have l0 := hSw.1.lt; go_simp; with_reducible rfl
    try simp only [Act.put, List.getElem_toArray, List.getElem_cons_zero, List.getElem_cons_succ, List.setIfInBounds_toArray, List.set_cons_zero, List.set_cons_succ]
    refine wpAnyY_take (i := 2) (v := ?_) rfl (by kernel_rfl) (by kernel_rfl) (by kernel_rfl) (by kernel_rfl) (fun _ _ _ h => h) (Or.inl ⟨by kernel_rfl, ?_⟩) hS ?_
    rotate_left
    · intro w' hSw; have n0 := hSw.2.cell 0; have ln := hSw.2.lt; go_simp; with_reducible rfl
    try simp only [Act.put, List.getElem_toArray, List.getElem_cons_zero, List.getElem_cons_succ, List.setIfInBounds_toArray, List.set_cons_zero, List.set_cons_succ]
    refine wpAnyY_oneSW (i := 1) (by kernel_rfl) rfl (by kernel_rfl) (fun K1 hK1 => ?_)
    go_simp
    refine (HWo.out _ ga [] none 0 (.inl rfl) (by simp)).mono ?_
    rintro e w4 ⟨m, rfl, hwon, hml, hG4⟩
    replace ga := ga.t hG4
    refine hK1.out _ _ (hSk _ ga) (fun hS => ?_)
    clear hK1
    try simp only [Act.put, List.getElem_toArray, List.getElem_cons_zero, List.getElem_cons_succ, List.setIfInBounds_toArray, List.set_cons_zero, List.set_cons_succ]
    have hlk := hwon.at (x := b) (by omega) (by go_simp)
    refine wpAnyY_oneSW (i := 3) (by kernel_rfl) rfl (by kernel_rfl) (fun K3 hK3 => ?_)
    go_simp
    refine hK3.out _ _ hS (fun hS => ?_)
    clear hK3 hlk
    try simp only [Act.put, List.getElem_toArray, List.getElem_cons_zero, List.getElem_cons_succ, List.setIfInBounds_toArray, List.set_cons_zero, List.set_cons_succ]
    refine wpAnyY_oneW (i := 4) (by kernel_rfl) rfl (by kernel_rfl) (by kernel_rfl) (fun K4 hK4 => ?_)
    go_simp
    refine hK4.out _ _ ?_
    clear hK4
    try simp only [Act.put, List.getElem_toArray, List.getElem_cons_zero, List.getElem_cons_succ, List.setIfInBounds_toArray, List.set_cons_zero, List.set_cons_succ]
    refine wpAnyY_done (by kernel_rfl) ?_ _
    have bK4 := hS.1
    have bb4 := hS.2
    clear hS hSk hwon hml
    have m0 := bK4.cell 0
    have m1 := bK4.cell 1
    have m2 := bK4.cell 2
    have m3 := bK4.cell 3
    have m4 := bK4.cell 4
    have m5 := bK4.cell 5
    have m6 := bK4.cell 6
    have m7 := bK4.cell 7
    have l0 := bK4.lt
    gi_wp2_with (gi_at_call 60; refine (callsIn_wide.2 (cases_any _ _ _ _ _ _ _ _ _)).mono ?_; rintro e w5 ⟨rfl, rfl⟩)
    clear m0 m1 m2 m3 m4 m5 m6 m7 l0
    obtain ⟨v0, hv0⟩ : ∃ v0, v0 = wonAt (wonL fu []) b := ⟨_, rfl⟩
    rw [← hv0]
    obtain ⟨Wb, hWb⟩ : ∃ Wb, Wb = (w4.alloc (.cells #[.int .i64 v0, .int .i64 v0] 62)).alloc (.cells #[.int .i64 (poolAt r p).stake, .int .i64 (poolAt r p).cut, .int .i64 (poolAt r p).kind, .slice (poolAt r p).ta (poolAt r p).table.length (poolAt r p).tc, .int .i64 (poolAt r p).quota, .bool (poolAt r p).first, .slice fa (runners r p).length fc, .slice r.ta r.protests.length r.tc] 85) := ⟨_, rfl⟩
    have hs5 : (w4.alloc (.cells #[.int .i64 v0, .int .i64 v0] 62)).heap.size = w4.heap.size + 1 := Array.size_push ..
    have g4b : G w4 Wb := by rw [hWb]; exact ((G.rf _).a _).a _
    have bS : Blk Wb w4.heap.size 62 #[.int .i64 v0, .int .i64 v0] := by rw [hWb]; exact (Blk.new _ _ _).alloc _
    have bKB : Blk Wb (w4.heap.size + 1) 85 #[.int .i64 (poolAt r p).stake, .int .i64 (poolAt r p).cut, .int .i64 (poolAt r p).kind, .slice (poolAt r p).ta (poolAt r p).table.length (poolAt r p).tc, .int .i64 (poolAt r p).quota, .bool (poolAt r p).first, .slice fa (runners r p).length fc, .slice r.ta r.protests.length r.tc] := by
      have := Blk.new (w4.alloc (.cells #[.int .i64 v0, .int .i64 v0] 62)) 85 #[.int .i64 (poolAt r p).stake, .int .i64 (poolAt r p).cut, .int .i64 (poolAt r p).kind, .slice (poolAt r p).ta (poolAt r p).table.length (poolAt r p).tc, .int .i64 (poolAt r p).quota, .bool (poolAt r p).first, .slice fa (runners r p).length fc, .slice r.ta r.protests.length r.tc]
      rw [hs5] at this
      rw [hWb]
      exact this
    rw [← hWb]
    clear hWb hs5
    have bKW := bK4.keep g4b
    have bbW := bb4.keep g4b
    have g3b := ga.t g4b
    have gwb := g3.t g3b
    have bzW := bz3.keep g3b
    have hKlt : K < w4.heap.size := bK4.lt
    obtain ⟨A, hA⟩ : ∃ A, A = w4.heap.size := ⟨_, rfl⟩
    rw [← hA] at bS bKB hKlt ⊢
    have hwA : w.heap.size + 1 + 1 < A := by omega
    have hAb : A < Wb.heap.size := bS.lt
    have hA3 : w3.heap.size ≤ A := by rw [hA]; exact ga.size
    clear hA bK4 bb4 g4b ga bK b13 bz3
    have hseq := cases_seq 3 (by omega) (A + 1) (fun i => i = A) fu Wb (by rw [hfv]; exact bKB) (by rw [hfp, hfs]; exact hprot.below gwb) (by rw [hfs]; exact HPL.out) (by omega) (by
      rw [hfs, hfp]
      rcases hprot with h | ⟨b', o', h1, h2, _⟩
      · exact .inl h
      · refine .inr fun b2 o2 e2 => ?_
        rw [h1] at e2
        have e3 : b' = b2 := by injection e2 with e2; injection e2
        have := gwb.size
        omega)
    rw [hfs] at hseq
    have hlo0 : canLo fu b [] = v0 := by rw [hv0]; rfl
    have hhi0 : canHi fu b [] = v0 := by rw [hv0]; rfl
    have HSN := Lib.hid (fun (l : List (List Int)) (st : List Int) => (⟨canLo_snoc fu b l st, canHi_snoc fu b l st⟩ : _ ∧ _))
    obtain ⟨LO, hLO⟩ : ∃ LO : List (List Int) → Int, LO = canLo fu b := ⟨_, rfl⟩
    obtain ⟨HI, hHI⟩ : ∃ HI : List (List Int) → Int, HI = canHi fu b := ⟨_, rfl⟩
    rw [← hLO, ← hHI] at HSN HS2
    rw [← hLO] at hlo0
    rw [← hHI] at hhi0
    clear hLO hHI hv0 hprot hfp hfs hfv hgf HPL
    refine rangeFunc_Y (F := Fence.wide) (α := Yd) (T := (· = 3)) (gf := 84) (lb := #[.pointer (some ⟨A + 1, 0, none⟩)]) rfl (by omega) rfl trivial (enters_of Tryz.func84 (by kernel_rfl) rfl) (ev := Yd.v) (Y := YdAt) (Kp := KP Wb.heap.size (fun i => i = A)) hseq (G.rf _) (fun h k => KP.t h k) (fun W l o o' hl _ _ => KP.put _ _ W l o o' hl) (fun x W l o o' h1 h2 h3 => YdAt.put x W l o o' h1 h2 h3)
      (fun pre W => Blk W A 62 #[.int .i64 (LO (pre.map Yd.st)), .int .i64 (HI (pre.map Yd.st))] ∧ Fr (fun i => i = A) Wb W) (fun _ _ _ => False) ?hI (fun _ _ _ _ _ h _ _ => h) ?hIT (fun _ _ _ _ _ _ h _ => h) ?h0 12 ?assign ?body ?done ?stop
    case hI =>
      rintro st X Y row ⟨h1, h2⟩ hg hr
      exact ⟨h1.grown hg (fun e => by have := (hr A e.symm).1; omega), h2.grown hg (fun g e => .inr (hr g e).1)⟩
    case hIT =>
      rintro B hB st X Y ⟨h1, h2⟩ hk
      exact ⟨hk.blk h1 (.inl (by omega)), h2.kt hk hB⟩
    case h0 => exact ⟨by rw [List.map_nil, hlo0, hhi0]; exact bS, Fr.rf _ _⟩
    case assign =>
      intro l x W KK hK
      unfold Yd.v at hK ⊢
      gi_wp2
      exact hK
    case stop =>
      rintro D c pre W _ _ h _
      exact h.elim
    case body =>
      rintro l pre x W ⟨h1, h2⟩ hyx hN
      have bK1 := h2.blk bKW (by omega)
      have bb1 := h2.blk bbW (by omega)
      have gW : G w3 W := ((G.fr (R := fun _ => False) g3b).t2 h2 (fun i hi e => by omega)).toG (fun _ _ h => h)
      have HSN2 := Lib.hid (HSN.out (pre.map Yd.st) x.st)
      unfold Yd.v
      obtain ⟨xa, xc, xst⟩ := x
      have hyi : IntsAt W xa xst := hyx.1
      have hx4 : xst.length ≤ 4 := hyx.2
      clear hyx
      dsimp only at *
      clear hseq HS2 bKB bKW bbW bS
      have hSk : ∀ W', G W W' → Blk W' K 85 #[.int .i64 (poolAt r p).stake, .int .i64 (poolAt r p).cut, .int .i64 (poolAt r p).kind, .slice (poolAt r p).ta (poolAt r p).table.length (poolAt r p).tc, .int .i64 (poolAt r p).quota, .bool (poolAt r p).first, .slice fa (runners r p).length fc, .slice r.ta r.protests.length r.tc] ∧ Blk W' (w.heap.size + 1) 3 #[.int .i64 b] := fun W' hW => ⟨bK1.keep hW, bb1.keep hW⟩
      gi_wp2_with fail
      refine wpIn_region_Y (l := some l) (S := fun W' => Blk W' K 85 #[.int .i64 (poolAt r p).stake, .int .i64 (poolAt r p).cut, .int .i64 (poolAt r p).kind, .slice (poolAt r p).ta (poolAt r p).table.length (poolAt r p).tc, .int .i64 (poolAt r p).quota, .bool (poolAt r p).first, .slice fa (runners r p).length fc, .slice r.ta r.protests.length r.tc] ∧ Blk W' (w.heap.size + 1) 3 #[.int .i64 b]) 5 6 rfl (by kernel_rfl) (fun ⟨_, _, h⟩ => h) (by kernel_rfl) (hSk _ (G.rf _).d) (fun hS => ?_)
      have ga := (G.rf W).d
      refine wpAnyY_take (i := 0) (v := ?_) rfl (by kernel_rfl) (by kernel_rfl) (by kernel_rfl) (by kernel_rfl) (fun _ _ _ h => h) (Or.inl ⟨by kernel_rfl, ?_⟩) hS ?_
      rotate_left
      · intro w' hSw; have m0 := hSw.1.cell 0; have m1 := hSw.1.cell 1; have m2 := hSw.1.cell 2; have m3 := hSw.1.cell 3; have m4 := hSw.1.cell 4; have m5 := hSw.1.cell 5; have m6 := hSw.1.cell 6; have m7 := hSw.1.cell 7; have l0 := hSw.1.lt; go_simp; with_reducible rfl
      try simp only [Act.put, List.getElem_toArray, List.getElem_cons_zero, List.getElem_cons_succ, List.setIfInBounds_toArray, List.set_cons_zero, List.set_cons_succ]
      refine wpAnyY_take (i := 1) (v := ?_) rfl (by kernel_rfl) (by kernel_rfl) (by kernel_rfl) (by kernel_rfl) (fun _ _ _ h => h) (Or.inl ⟨by kernel_rfl, ?_⟩) hS ?_
      rotate_left
      · intro w' hSw; go_simp; with_reducible rfl
      try simp only [Act.put, List.getElem_toArray, List.getElem_cons_zero, List.getElem_cons_succ, List.setIfInBounds_toArray, List.set_cons_zero, List.set_cons_succ]
      refine wpAnyY_take (i := 3) (v := ?_) rfl (by kernel_rfl) (by kernel_rfl) (by kernel_rfl) (by kernel_rfl) (fun _ _ _ h => h) (Or.inl ⟨by kernel_rfl, ?_⟩) hS ?_
      rotate_left
      · intro w' hSw; have n0 := hSw.2.cell 0; have ln := hSw.2.lt; go_simp; with_reducible rfl
      try simp only [Act.put, List.getElem_toArray, List.getElem_cons_zero, List.getElem_cons_succ, List.setIfInBounds_toArray, List.set_cons_zero, List.set_cons_succ]
      refine wpAnyY_oneSW (i := 2) (by kernel_rfl) rfl (by kernel_rfl) (fun K2 hK2 => ?_)
      go_simp
      refine (HWo.out _ (gW.t ga) xst xa xc (hyi.below ga) (by omega)).mono ?_
      rintro e w7 ⟨m7, rfl, hwon, hml, hG7⟩
      replace ga := ga.t hG7
      refine hK2.out _ _ (hSk _ ga) (fun hS => ?_)
      clear hK2
      try simp only [Act.put, List.getElem_toArray, List.getElem_cons_zero, List.getElem_cons_succ, List.setIfInBounds_toArray, List.set_cons_zero, List.set_cons_succ]
      have hlk := hwon.at (x := b) (by omega) (by go_simp)
      refine wpAnyY_oneSW (i := 4) (by kernel_rfl) rfl (by kernel_rfl) (fun K4 hK4 => ?_)
      go_simp
      refine hK4.out _ _ hS (fun hS => ?_)
      clear hK4 hlk
      try simp only [Act.put, List.getElem_toArray, List.getElem_cons_zero, List.getElem_cons_succ, List.setIfInBounds_toArray, List.set_cons_zero, List.set_cons_succ]
      refine wpAnyY_oneW (i := 5) (by kernel_rfl) rfl (by kernel_rfl) (by kernel_rfl) (fun K5 hK5 => ?_)
      go_simp
      refine hK5.out _ _ ?_
      clear hK5
      try simp only [Act.put, List.getElem_toArray, List.getElem_cons_zero, List.getElem_cons_succ, List.setIfInBounds_toArray, List.set_cons_zero, List.set_cons_succ]
      refine wpAnyY_done (by kernel_rfl) ?_ _
      clear hS hSk hwon hml
      have b7 := h1.keep ga
      obtain ⟨lo, hlo⟩ : ∃ lo, lo = LO (pre.map Yd.st) := ⟨_, rfl⟩
      obtain ⟨hi, hhi⟩ : ∃ hi, hi = HI (pre.map Yd.st) := ⟨_, rfl⟩
      obtain ⟨wv, hwv⟩ : ∃ wv, wv = wonAt (wonL fu xst) b := ⟨_, rfl⟩
      rw [← hlo, ← hhi] at b7 h1 HSN2
      rw [← hwv] at HSN2 ⊢
      have c0 := b7.cell 0
      have c1 := b7.cell 1
      have z0 := b7.frozen 0
      have z1 := b7.frozen 1
      have lA := b7.lt
      clear hlo hhi hwv
      gi_wp2_with fail
      have frE : Fr (fun i => i = A) W ((w7.setCell ⟨A, 0, none⟩ (.int .i64 (min lo wv))).setCell ⟨A, 1, none⟩ (.int .i64 (max hi wv))) := ((G.fr (R := fun i => i = A) ga).s (p := ⟨A, 0, none⟩) (.inl rfl) _).s (p := ⟨A, 1, none⟩) (.inl rfl) _
      have bE := (b7.set_ 0 (.int .i64 (min lo wv))).set_ 1 (.int .i64 (max hi wv))
      simp only [List.setIfInBounds_toArray, List.set_cons_zero, List.set_cons_succ] at bE
      refine ⟨frE.keeps (fun i e _ => ?_) _, frE.kp _ h2.size, ?_, h2.t frE⟩
      · subst e
        exact ⟨_, _, _, h1⟩
      · rw [List.map_append, List.map_cons, List.map_nil, HSN2.out.1, HSN2.out.2]
        exact bE
    case done =>
      rintro D xs W hD hS ⟨h1, h2⟩ hDef
      rw [hS] at h1
      have bzD := h2.blk bzW (by omega)
      have HF := Lib.hid (fun W' hG' => HS2.out W' hG')
      have gwD : G w W := ((G.fr (R := fun _ => False) gwb).t2 h2 (fun i hi e => by omega)).toG (fun _ _ h => h)
      obtain ⟨lo, hlo⟩ : ∃ lo, lo = LO (caseL r.protests) := ⟨_, rfl⟩
      obtain ⟨hi, hhi⟩ : ∃ hi, hi = HI (caseL r.protests) := ⟨_, rfl⟩
      rw [← hlo, ← hhi] at h1 HF
      have c0 := h1.cell 0
      have c1 := h1.cell 1
      have lA := h1.lt
      have d0 := bzD.cell 0
      have d1 := bzD.cell 1
      have z0 := bzD.frozen 0
      have z1 := bzD.frozen 1
      have lz := bzD.lt
      clear hlo hhi hseq HWo HSN HS2
      gi_wp2_with fail
      have hDef2 : ((W.setCell ⟨w.heap.size + 1 + 1, 0, none⟩ (.int .i64 lo)).setCell ⟨w.heap.size + 1 + 1, 1, none⟩ (.int .i64 hi)).heap[D]? = some (.deferred (some [])) := by
        rw [Below.heap_setCell _ _ _ D (by show D ≠ w.heap.size + 1 + 1; omega), Below.heap_setCell _ _ _ D (by show D ≠ w.heap.size + 1 + 1; omega)]
        exact hDef
      refine ⟨by simp, .inl ⟨_, _, rfl, run_takeDeferred hDef2, ?_⟩⟩
      have bE := (bzD.set_ 0 (.int .i64 lo)).set_ 1 (.int .i64 hi)
      simp only [List.setIfInBounds_toArray, List.set_cons_zero, List.set_cons_succ] at bE
      have gE : G w ((W.setCell ⟨w.heap.size + 1 + 1, 0, none⟩ (.int .i64 lo)).setCell ⟨w.heap.size + 1 + 1, 1, none⟩ (.int .i64 hi)) := (gwD.s (p := ⟨w.heap.size + 1 + 1, 0, none⟩) (show w.heap.size ≤ w.heap.size + 1 + 1 by omega) _).s (p := ⟨w.heap.size + 1 + 1, 1, none⟩) (show w.heap.size ≤ w.heap.size + 1 + 1 by omega) _
      generalize (W.setCell ⟨w.heap.size + 1 + 1, 0, none⟩ (.int .i64 lo)).setCell ⟨w.heap.size + 1 + 1, 1, none⟩ (.int .i64 hi) = WE at *
      have hf : Fr (fun i => i = D) WE (WE.putObj D (.deferred none)) := ⟨rfl, rfl, rfl, by simp [World.putObj], fun i _ hn => World.putObj_heap_other hn⟩
      have bE2 := hf.blk bE (show ¬ w.heap.size + 1 + 1 = D by omega)
      have gE2 : G w (WE.putObj D (.deferred none)) := ((G.fr (R := fun _ => False) gE).t2 hf (fun i hi e => by have := gwb.size; omega)).toG (fun _ _ h => h)
      refine ⟨_, res25 _ _ (w.heap.size + 1 + 1) 0 (REL := #[.int .i64 lo, .int .i64 hi]) ⟨_, _, rfl⟩ rfl rfl bE2, ?_⟩
      exact HF.out _ gE2
  · have HQ0 : Hid (∀ W, G W1 W → ∀ ba, IntsAt W ba [b] → Calls Tryz.prog 46 #[.agg #[.slice r.ra r.racers.length r.rc, .slice r.pa r.pools.length r.pc, .slice r.ta r.protests.length r.tc], .int .i64 p, .slice ba 1 1] W fun e w' => e = .returned (.tuple #[.agg #[.int .i64 0, .int .i64 0, .int .i64 0, .slice none 0 0, .int .i64 0, .bool false, .slice none 0 0, .slice none 0 0], .int .i64 QE]) ∧ G W w') := fun W hW ba hba => by
      refine (HQ.out W (g0.t hW) ba hba).mono ?_
      rintro e w' ⟨hG, hh⟩
      rcases hh with ⟨_, a⟩ | ⟨a, _⟩
      · exact ⟨a, hG⟩
      · exact absurd a hq
    have e0 : (QE == 0) = false := by simpa using hq
    have HE2 := Lib.hid (HE.out hq)
    clear HQ HE HC HS hv
    have HQ3 := Lib.hid (HQ0.out _ gA _ hiA)
    clear HQ0 hiA bA
    rw [hW1] at m0 m1 m2 l0 n0 ln
    gi_wp2_with (gi_at_call 46; rw [← hW1]; refine (callsIn_wide.2 HQ3.out).mono ?_; rintro e w2 ⟨rfl, hG2⟩; have b2 := (bz.keep gA).keep hG2; have c0 := b2.cell 0; have c1 := b2.cell 1; have z0 := b2.frozen 0; have z1 := b2.frozen 1; have lz := b2.lt; clear m0 m1 m2 l0 n0 ln HQ3)
    have bE : Blk (((w2.setCell ⟨w.heap.size + 1 + 1, 0, none⟩ (.int .i64 0)).setCell ⟨w.heap.size + 1 + 1, 1, none⟩ (.int .i64 0)).alloc (.cells #[.int .i64 0, .int .i64 0, .int .i64 0, .slice none 0 0, .int .i64 0, .bool false, .slice none 0 0, .slice none 0 0] 85)) (w.heap.size + 1 + 1) 62 #[.int .i64 0, .int .i64 0] := by
      have b := ((b2.set_ 0 (.int .i64 0)).set_ 1 (.int .i64 0)).alloc (.cells #[.int .i64 0, .int .i64 0, .int .i64 0, .slice none 0 0, .int .i64 0, .bool false, .slice none 0 0, .slice none 0 0] 85)
      simp only [List.setIfInBounds_toArray, List.set_cons_zero, List.set_cons_succ] at b
      exact b
    refine ⟨_, res25 _ _ (w.heap.size + 1 + 1) QE (REL := #[.int .i64 0, .int .i64 0]) ⟨_, _, rfl⟩ rfl rfl bE, ?_⟩
    exact HE2.out _ (((((g0.t gA).t hG2).s (p := ⟨w.heap.size + 1 + 1, 0, none⟩) (show w.heap.size ≤ w.heap.size + 1 + 1 by omega) _).s (p := ⟨w.heap.size + 1 + 1, 1, none⟩) (show w.heap.size ≤ w.heap.size + 1 + 1 by omega) _).a _)
end Go.Proofs.YtnkmcoljijmgpaaGreat

set_option linter.unusedSimpArgs false
set_option linter.unusedVariables false
namespace Go.Proofs.YtnkmcoljijmgpaaGreat
open Go.RowKit Go.Shelf Go.Sort
attribute [local go_sem] Oper.semAt_some
/-- a purse -/
structure Pu where
  owner : Int
  staked : Int
  paid : Int
instance : Inhabited Pu := ⟨⟨0, 0, 0⟩⟩
def Pu.v (x : Pu) : Array Value := #[.int .i64 x.owner, .int .i64 x.staked, .int .i64 x.paid]
def ownC (x y : Pu) : Int := cmpI x.owner y.owner
set_option maxHeartbeats 1000000 in
theorem closure56 (x y : Pu) (W : World) : Calls Tryz.prog 56 #[.agg x.v, .agg y.v] W fun e w' => e = .returned (.int .i64 (ownC x y)) ∧ ∃ q os', w' = grow (W.drewN q) os' := by
  have hcon := fun W' => cmp_any x.owner y.owner W'
  unfold ownC
  generalize cmpI x.owner y.owner = r at hcon ⊢
  obtain ⟨xb, xo, xr⟩ := x
  obtain ⟨yb, yo, yr⟩ := y
  unfold Pu.v
  dsimp only at *
  go_enter Tryz.func56, Tryz.ntmps56
  go_wp2_with (go_at_call 57; refine (hcon _).mono ?_; rintro e w' ⟨rfl, rfl⟩)
  go_ret
  exact ⟨rfl, 0, _, by rw [alloc_eq_grow, alloc_eq_grow, grow_grow]; rfl⟩
/-- a racer's cells -/
def puE (x : Pu) : List Value := x.v.toList
def puV (l : List Pu) : List Value := l.flatMap puE
theorem puE_len (x : Pu) : (puE x).length = 3 := rfl
theorem puV_len (l : List Pu) : (puV l).length = l.length * 3 := by
  induction l with
  | nil => rfl
  | cons x l ih => simp only [puV, List.flatMap_cons, List.length_append, puE_len, List.length_cons] at *; omega
theorem puV_snoc (l : List Pu) (x : Pu) : puV (l ++ [x]) = puV l ++ puE x := by simp [puV]
theorem puV_get (l : List Pu) {i r : Nat} (hi : i < l.length) (hr : r < 3) : (puV l)[i * 3 + r]? = (puE (l.getD i default))[r]? := by
  induction l generalizing i with
  | nil => simp at hi
  | cons x l ih =>
    simp only [puV, List.flatMap_cons] at *
    cases i with
    | zero => rw [Nat.zero_mul, Nat.zero_add, List.getElem?_append_left (by rw [puE_len]; exact hr)]; rfl
    | succ i =>
      rw [List.getElem?_append_right (by rw [puE_len]; omega), puE_len, show (i + 1) * 3 + r - 3 = i * 3 + r by omega]
      rw [ih (by simpa using hi)]
      simp
theorem flat_pu (l : List Pu) : (flatK puE 3 l.toArray).toList = puV l := by
  apply List.ext_getElem?
  intro t
  by_cases ht : t < l.length * 3
  · have e := puV_get l (i := t / 3) (r := t % 3) (by omega) (by omega)
    rw [show t / 3 * 3 + t % 3 = t by omega] at e
    rw [e]
    have h2 := get_flatK puE 3 l.toArray t (by simpa using ht)
    have hs : t < (flatK puE 3 l.toArray).size := by simpa using ht
    rw [getElem!_pos (flatK puE 3 l.toArray) t hs] at h2
    have hq : t / 3 < l.length := by omega
    have h3 : (l.toArray)[t / 3]! = l.getD (t / 3) default := by
      rw [getElem!_pos l.toArray (t / 3) (by simpa using hq)]
      simp [List.getD_eq_getElem?_getD, hq]
    rw [h3] at h2
    have hr : t % 3 < (puE (l.getD (t / 3) default)).length := by rw [puE_len]; omega
    rw [getElem!_pos (puE (l.getD (t / 3) default)) (t % 3) hr] at h2
    rw [List.getElem?_eq_getElem (by simpa using hs), List.getElem?_eq_getElem hr, ← h2]
    simp
  · rw [List.getElem?_eq_none (by simp; omega), List.getElem?_eq_none (by rw [puV_len]; omega)]
theorem holds_pu {W : World} {g n : Nat} {cur : Array Value} {l : List Pu} (hb : W.heap[g]? = some (.cells cur 47 (0, 0))) (ht : cur.toList.take (l.length * 3) = puV l) : HoldsK puE 3 W g 0 l.toArray := by
  intro j hj
  have hj' : j < l.length * 3 := by simpa using hj
  refine ⟨?_, by simp [World.frozen?, hb]⟩
  have h1 : (cur.toList.take (l.length * 3))[j]? = ((flatK puE 3 l.toArray).toList)[j]? := by rw [ht, flat_pu]
  rw [List.getElem?_take_of_lt hj'] at h1
  simp only [World.cell?, hb, Nat.zero_add]
  simp only [Option.isSome_none, Bool.false_eq_true, if_false]
  rw [← Array.getElem?_toList, h1, Array.getElem?_toList]
  rw [getElem!_pos (flatK puE 3 l.toArray) j hj]
  simp only [id]
  exact Array.getElem?_eq_getElem hj
/-- behind the sort the same slice owns what was sorted -/
theorem own_srtP {w : World} {base g cap n : Nat} {os : Array Obj} {cur : Array Value} {l l' : List Pu} (hl : l'.length = l.length) (hbase : base ≤ g) (hb : w.heap[g]? = some (.cells cur 47 (0, 0)))
    (h1 : l.length ≤ cap) (h2 : cap ≤ maxLen) (h3 : cur.size = cap * 3) :
    (sortWorldK puE 3 w g 0 n l'.toArray os).ownsRow base 47 3 (.slice (some ⟨g, 0, none⟩) l.length cap) l.length (puV l') := by
  unfold sortWorldK putRowK
  have hF : (flatK puE 3 l'.toArray).size = l.length * 3 := by simp [hl]
  refine ⟨by rw [puV_len, hl], .inr ⟨g, cap, _, rfl, hbase, heap_srt _ hb, h1, h2, by simp [putCells, h3], ?_⟩⟩
  rw [← hF, take_putFlat _ _ (by rw [hF, h3]; omega), flat_pu]
/-- sorted by ring -/
def srtP (l : List Pu) : List Pu := l.mergeSort fun x y => decide (x.owner ≤ y.owner)
theorem srtP_len (l : List Pu) : (srtP l).length = l.length := by simp [srtP]
theorem srtP_perm (l : List Pu) : (srtP l).Perm l := List.mergeSort_perm _ _
theorem srtP_pw (l : List Pu) : (srtP l).Pairwise fun x y => x.owner ≤ y.owner := by
  have := List.pairwise_mergeSort (le := fun x y : Pu => decide (x.owner ≤ y.owner)) (fun a b c h1 h2 => by simp at *; omega) (fun a b => by simp; omega) l
  exact this.imp fun h => by simpa using h
/-- no two of one ring -/
def UniqP (l : List Pu) : Prop := l.Pairwise fun x y => x.owner ≠ y.owner
theorem uniqP_eq {l : List Pu} (h : UniqP l) {x y : Pu} (hx : x ∈ l) (hy : y ∈ l) (e : x.owner = y.owner) : x = y := by
  induction l with
  | nil => simp at hx
  | cons a l ih =>
    rw [UniqP, List.pairwise_cons] at h
    rcases List.mem_cons.1 hx with h1 | h1
    · rcases List.mem_cons.1 hy with h2 | h2
      · rw [h1, h2]
      · rw [h1] at e
        exact absurd e (h.1 y h2)
    · rcases List.mem_cons.1 hy with h2 | h2
      · rw [h2] at e
        exact absurd e.symm (h.1 x h1)
      · exact ih h.2 h1 h2
theorem srtP_unique {l l' : List Pu} (h : UniqP l) (hp : l'.Perm l) (hs : l'.Pairwise fun x y => x.owner ≤ y.owner) : l' = srtP l :=
  List.Perm.eq_of_pairwise (le := fun x y : Pu => x.owner ≤ y.owner) (fun a b ha hb h1 h2 => uniqP_eq h (hp.mem_iff.1 ha) ((srtP_perm l).mem_iff.1 hb) (by omega)) hs (srtP_pw l) (hp.trans (srtP_perm l).symm)
theorem ltOwn (x y : Pu) : decide (ownC x y < 0) = decide (x.owner < y.owner) := by
  unfold ownC cmpI
  by_cases h1 : x.owner < y.owner
  · simp [h1]
  · by_cases h2 : y.owner < x.owner <;> simp [h1, h2]
def Tryz.sortPu_ren : Go.Shelf.Ren := ⟨fun | 6 => 80 | 15 => 102 | 14 => 104 | 28 => 127 | 29 => 128 | 20 => 129 | 21 => 130 | 22 => 131 | 23 => 132 | 24 => 133 | 25 => 134 | 26 => 135 | 27 => 136 | 46 => 156 | 47 => 152 | 48 => 153 | 49 => 157 | 50 => 158 | 57 => 165 | n => n, fun | 22 => 43 | 24 => 47 | 25 => 100 | 3 => 3 | 39 => 72 | 0 => 0 | 53 => 156 | 55 => 158 | 4 => 4 | 46 => 149 | 45 => 148 | 50 => 153 | 5 => 5 | 9 => 9 | 66 => 172 | 70 => 176 | 76 => 182 | 77 => 183 | n => n, fun | n => n⟩
theorem Tryz.sortPu : Go.Proofs.SlLaysF0.n6 Tryz.prog Tryz.sortPu_ren := {
  mixed := by kernel_rfl,
  f6 := ⟨Tryz.f80.name, by decide, Tryz.func80.trans (congrArg some (by kernel_rfl))⟩,
  f14 := ⟨Tryz.f104.name, by decide, Tryz.func104.trans (congrArg some (by kernel_rfl))⟩,
  f15 := Tryz.func102.trans (congrArg some (by kernel_rfl)),
  f20 := ⟨Tryz.f129.name, by decide, Tryz.func129.trans (congrArg some (by kernel_rfl))⟩,
  f21 := ⟨Tryz.f130.name, by decide, Tryz.func130.trans (congrArg some (by kernel_rfl))⟩,
  f22 := ⟨Tryz.f131.name, by decide, Tryz.func131.trans (congrArg some (by kernel_rfl))⟩,
  f23 := ⟨Tryz.f132.name, by decide, Tryz.func132.trans (congrArg some (by kernel_rfl))⟩,
  f24 := ⟨Tryz.f133.name, by decide, Tryz.func133.trans (congrArg some (by kernel_rfl))⟩,
  f25 := ⟨Tryz.f134.name, by decide, Tryz.func134.trans (congrArg some (by kernel_rfl))⟩,
  f26 := ⟨Tryz.f135.name, by decide, Tryz.func135.trans (congrArg some (by kernel_rfl))⟩,
  f27 := ⟨Tryz.f136.name, by decide, Tryz.func136.trans (congrArg some (by kernel_rfl))⟩,
  f28 := Tryz.func127.trans (congrArg some (by kernel_rfl)),
  f29 := Tryz.func128.trans (congrArg some (by kernel_rfl)),
  f46 := ⟨Tryz.f156.name, by decide, Tryz.func156.trans (congrArg some (by kernel_rfl))⟩,
  f47 := Tryz.func152.trans (congrArg some (by kernel_rfl)),
  f48 := Tryz.func153.trans (congrArg some (by kernel_rfl)),
  f49 := ⟨Tryz.f157.name, by decide, Tryz.func157.trans (congrArg some (by kernel_rfl))⟩,
  f50 := ⟨Tryz.f158.name, by decide, Tryz.func158.trans (congrArg some (by kernel_rfl))⟩,
  f57 := ⟨Tryz.f165.name, by decide, Tryz.func165.trans (congrArg some (by kernel_rfl))⟩,
  t0 := Tryz.underlying0,
  a0 := Tryz.isAgg0,
  z0 := Tryz.sizeOf0,
  v0 := Tryz.zeroValue0,
  t3 := Tryz.underlying3,
  a3 := Tryz.isAgg3,
  z3 := Tryz.sizeOf3,
  v3 := Tryz.zeroValue3,
  t4 := Tryz.underlying4,
  a4 := Tryz.isAgg4,
  z4 := Tryz.sizeOf4,
  v4 := Tryz.zeroValue4,
  t5 := Tryz.underlying5,
  a5 := Tryz.isAgg5,
  z5 := Tryz.sizeOf5,
  v5 := Tryz.zeroValue5,
  t9 := Tryz.underlying9,
  a9 := Tryz.isAgg9,
  z9 := Tryz.sizeOf9,
  v9 := Tryz.zeroValue9,
  t22 := Tryz.underlying43,
  a22 := Tryz.isAgg43,
  z22 := Tryz.sizeOf43,
  v22 := Tryz.zeroValue43,
  t25 := Tryz.underlying100,
  a25 := Tryz.isAgg100,
  z25 := Tryz.sizeOf100,
  v25 := Tryz.zeroValue100,
  t39 := Tryz.underlying72,
  a39 := Tryz.isAgg72,
  z39 := Tryz.sizeOf72,
  v39 := Tryz.zeroValue72,
  t45 := Tryz.underlying148,
  a45 := Tryz.isAgg148,
  z45 := Tryz.sizeOf148,
  v45 := Tryz.zeroValue148,
  t46 := Tryz.underlying149,
  a46 := Tryz.isAgg149,
  z46 := Tryz.sizeOf149,
  v46 := Tryz.zeroValue149,
  t50 := Tryz.underlying153,
  a50 := Tryz.isAgg153,
  z50 := Tryz.sizeOf153,
  v50 := Tryz.zeroValue153,
  t53 := Tryz.underlying156,
  a53 := Tryz.isAgg156,
  z53 := Tryz.sizeOf156,
  v53 := Tryz.zeroValue156,
  t55 := Tryz.underlying158,
  a55 := Tryz.isAgg158,
  z55 := Tryz.sizeOf158,
  v55 := Tryz.zeroValue158,
  t66 := Tryz.underlying172,
  a66 := Tryz.isAgg172,
  z66 := Tryz.sizeOf172,
  v66 := Tryz.zeroValue172,
  t70 := Tryz.underlying176,
  a70 := Tryz.isAgg176,
  z70 := Tryz.sizeOf176,
  v70 := Tryz.zeroValue176,
  t76 := Tryz.underlying182,
  a76 := Tryz.isAgg182,
  z76 := Tryz.sizeOf182,
  v76 := Tryz.zeroValue182,
  t77 := Tryz.underlying183,
  a77 := Tryz.isAgg183,
  z77 := Tryz.sizeOf183,
  v77 := Tryz.zeroValue183 }
theorem swoOwn : SWO (ltOf ownC) where
  irrefl x := by rw [show ltOf ownC x x = _ from ltOwn x x]; simp
  trans x y z h1 h2 := by rw [show ltOf ownC x y = _ from ltOwn x y] at h1; rw [show ltOf ownC y z = _ from ltOwn y z] at h2; rw [show ltOf ownC x z = _ from ltOwn x z]; simp at *; omega
  ntrans x y z h1 h2 := by rw [show ltOf ownC x y = _ from ltOwn x y] at h1; rw [show ltOf ownC y z = _ from ltOwn y z] at h2; rw [show ltOf ownC x z = _ from ltOwn x z]; simp at *; omega
theorem srtP_of {l : List Pu} (hu : UniqP l) {d' : Array Pu} (hp : PermIn 0 l.toArray.size l.toArray d') (hs : SortedIn (ltOf ownC) 0 l.toArray.size d') : d' = (srtP l).toArray := by
  have e : d'.toList = srtP l := srtP_unique hu (by simpa using perm_toList hp) (by
    rw [List.pairwise_iff_getElem]
    intro i j hi hj hij
    have hsz : d'.size = l.toArray.size := hp.1
    have hi' : i < d'.size := by simpa using hi
    have hj' : j < d'.size := by simpa using hj
    have := hs i j (Nat.zero_le _) hij (by omega)
    rw [show ltOf ownC d'[j]! d'[i]! = _ from ltOwn _ _] at this
    rw [getElem!_pos d' j hj', getElem!_pos d' i hi'] at this
    simp at this
    simpa using this)
  rw [← e]
set_option maxRecDepth 100000 in
/-- slices.SortFunc by ring, at a row of one's own -/
theorem sortP_own (l : List Pu) (hu : UniqP l) (hl : l.length ≤ 1000) (W : World) (B : Nat) (v : Value) (h : W.ownsRow B 47 3 v l.length (puV l)) : Calls Tryz.prog 80 #[v, .func (.func 56) #[] #[]] W fun e w' => e = .returned (.tuple #[]) ∧ w'.ownsRow B 47 3 v l.length (puV (srtP l)) ∧ W.grownBy w' v.ownBlock := by
  rcases h.2 with ⟨rfl, h0⟩ | ⟨g, cap, cur, rfl, hb, hg, h1, h2, h3, h4⟩
  · have hl0 : l = [] := List.length_eq_zero_iff.1 h0
    subst hl0
    have hc := AnyF.slices_SortFunc_none Tryz.sortPu none 0 (.func (.func 56) #[] #[]) W
    change Calls Tryz.prog 80 _ _ _ at hc
    refine hc.mono ?_
    rintro e w' ⟨rfl, rfl⟩
    exact ⟨rfl, by rw [show srtP [] = [] by simp [srtP]]; exact h, World.grownBy.refl _ _⟩
  · have hlt : g < W.heap.size := (Array.getElem?_eq_some_iff.1 hg).1
    have hc := AnyQ.slices_SortFunc Tryz.sortPu 3 Tryz.isAgg47 Tryz.sizeOf47 puE puE_len (fun x v hv => by
      simp [puE, Pu.v] at hv
      rcases hv with rfl | rfl | rfl <;> rfl) ownC swoOwn 56 #[] g 0 cap l.toArray W (enters_of Tryz.func56 (by kernel_rfl) rfl) (fun m os dk _ x y => closure56 x y _) (holds_pu (n := 0) hg h4) hlt (by simp; omega)
    change Calls Tryz.prog 80 _ _ _ at hc
    rw [show l.toArray.size = l.length by simp] at hc
    refine hc.mono ?_
    rintro e w' ⟨rfl, d', n, os, hp, hs, rfl⟩
    have hd := srtP_of hu (by simpa using hp) (by simpa using hs)
    subst hd
    exact ⟨rfl, own_srtP (srtP_len l) hb hg h1 h2 h3, grownBy_srt _⟩
end Go.Proofs.YtnkmcoljijmgpaaGreat

set_option linter.unusedSimpArgs false
set_option linter.unusedVariables false
namespace Go.Proofs.YtnkmcoljijmgpaaGreat
open Go.RowKit Go.Shelf Go.Maps
attribute [local go_sem] Oper.semAt_some
/-- how a purse reads -/
def puD (x : Pu) : DataW Unit := .agg [.lit (.int .i64 x.owner), .lit (.int .i64 x.staked), .lit (.int .i64 x.paid)]
theorem puD_inj {x y : Pu} (h : puD x = puD y) : x = y := by
  obtain ⟨a, b, c⟩ := x
  obtain ⟨d, e, f⟩ := y
  simp only [puD, DataW.agg.injEq, List.cons.injEq, DataW.lit.injEq, Lit.int.injEq, true_and, and_true] at h
  obtain ⟨rfl, rfl, rfl⟩ := h
  rfl
noncomputable def puR (v : Value) : Option (DataW Unit × List MemPlace) := open Classical in if h : ∃ x : Pu, v = .agg x.v then some (puD h.choose, []) else none
theorem puV_inj {x y : Pu} (h : Value.agg x.v = .agg y.v) : x = y := by
  obtain ⟨a, b, c⟩ := x
  obtain ⟨d, e, f⟩ := y
  simp only [Pu.v, Value.agg.injEq, Array.mk.injEq, List.cons.injEq, Value.int.injEq, true_and, and_true] at h
  obtain ⟨rfl, rfl, rfl⟩ := h
  rfl
theorem puR_mk (x : Pu) : puR (.agg x.v) = some (puD x, []) := by
  have h : ∃ y : Pu, Value.agg x.v = .agg y.v := ⟨x, rfl⟩
  unfold puR
  rw [dif_pos h, ← puV_inj h.choose_spec]
theorem puR_inv {v : Value} {y : DataW Unit × List MemPlace} (h : puR v = some y) : ∃ x : Pu, v = .agg x.v ∧ y = (puD x, []) := by
  unfold puR at h
  by_cases hx : ∃ x : Pu, v = .agg x.v
  · rw [dif_pos hx] at h
    exact ⟨hx.choose, hx.choose_spec, by cases h; rfl⟩
  · rw [dif_neg hx] at h
    cases h
/-- block m is a map of purses by owner, of at most N entries -/
def PuM (W : World) (m N : Nat) (ps : List Pu) : Prop := ∃ D : DataW Unit, W.ownsMap Tryz.prog 3 puR m N D ∧ (∀ x : Int, has D (.int .i64 x) = ps.any fun p => p.owner == x) ∧ ∀ q, q ∈ ps → ∀ z, D.atKey (.int .i64 q.owner) z = puD q
theorem PuM.made (W : World) : PuM (W.alloc (.map #[] 0)) W.heap.size 0 [] := ⟨_, World.ownsMap_made _ _ _ _, fun x => rfl, fun q h => by simp at h⟩
theorem PuM.keep {W W' : World} {m N : Nat} {ps : List Pu} (h : PuM W m N ps) (hG : G W W') : PuM W' m N ps := by
  obtain ⟨D, h1, h2⟩ := h
  refine ⟨D, ?_, h2⟩
  obtain ⟨es, clock, hb, F, hs, e⟩ := h1
  exact ⟨es, clock, (hG.block m (Array.getElem?_eq_some_iff.1 hb).1).trans hb, F, hs, e⟩
theorem PuM.grown {W W' : World} {m N : Nat} {ps : List Pu} {row : Option Nat} (h : PuM W m N ps) (hg : W.grownBy W' row) (hne : some m ≠ row) : PuM W' m N ps := by
  obtain ⟨D, h1, h2⟩ := h
  exact ⟨D, h1.kept hg hne, h2⟩
theorem PuM.ne {W : World} {m N : Nat} {ps : List Pu} (h : PuM W m N ps) {g : Nat} {t : TypeId} {cs : Array Value} (hb : Blk W g t cs) : g ≠ m := fun e => by
  subst e
  obtain ⟨D, h1, _⟩ := h
  obtain ⟨es, clock, hm, _⟩ := h1
  rw [show W.heap[g]? = _ from hb] at hm
  cases hm
/-- a purse is put: in the place of the one of its owner, or as a new one -/
def putP (ps : List Pu) (q : Pu) : List Pu := if ps.any (fun p => p.owner == q.owner) = true then ps.map (fun p => if p.owner = q.owner then q else p) else ps ++ [q]
/-- the purse of an owner -/
def atP (ps : List Pu) (x : Int) : Pu := match ps.find? fun p => p.owner == x with | some q => q | none => ⟨0, 0, 0⟩
theorem putP_any (ps : List Pu) (q : Pu) (y : Int) : (putP ps q).any (fun p => p.owner == y) = (ps.any (fun p => p.owner == y) || q.owner == y) := by
  unfold putP
  by_cases h : ps.any (fun p => p.owner == q.owner) = true
  · rw [if_pos h, List.any_map]
    by_cases hy : q.owner = y
    · subst hy
      simp only [beq_self_eq_true, Bool.or_true]
      obtain ⟨p, hp, he⟩ := List.any_eq_true.1 h
      refine List.any_eq_true.2 ⟨p, hp, ?_⟩
      have e : p.owner = q.owner := by simpa using he
      simp [e]
    · have e0 : (q.owner == y) = false := by simpa using hy
      rw [e0, Bool.or_false]
      congr 1
      funext p
      simp only [Function.comp]
      by_cases e : p.owner = q.owner
      · rw [if_pos e, e]
      · rw [if_neg e]
  · rw [if_neg h, List.any_append]
    simp
theorem putP_mem {ps : List Pu} {q p : Pu} (h : p ∈ putP ps q) : p = q ∨ (p ∈ ps ∧ p.owner ≠ q.owner) := by
  unfold putP at h
  by_cases ha : ps.any (fun p => p.owner == q.owner) = true
  · rw [if_pos ha] at h
    obtain ⟨p', hp', he⟩ := List.mem_map.1 h
    by_cases e : p'.owner = q.owner
    · rw [if_pos e] at he
      exact .inl he.symm
    · rw [if_neg e] at he
      subst he
      exact .inr ⟨hp', e⟩
  · rw [if_neg ha] at h
    rcases List.mem_append.1 h with h | h
    · refine .inr ⟨h, fun e => ha (List.any_eq_true.2 ⟨p, h, by simpa using e⟩)⟩
    · exact .inl (List.mem_singleton.1 h)
theorem putP_uniq {ps : List Pu} (h : UniqP ps) (q : Pu) : UniqP (putP ps q) := by
  unfold putP
  by_cases ha : ps.any (fun p => p.owner == q.owner) = true
  · rw [if_pos ha]
    unfold UniqP at *
    rw [List.pairwise_map]
    refine h.imp fun {a b} hab => ?_
    by_cases e1 : a.owner = q.owner
    · rw [if_pos e1]
      by_cases e2 : b.owner = q.owner
      · exact absurd (e1.trans e2.symm) hab
      · rw [if_neg e2]; exact fun e => e2 e.symm
    · rw [if_neg e1]
      by_cases e2 : b.owner = q.owner
      · rw [if_pos e2]; exact e1
      · rw [if_neg e2]; exact hab
  · rw [if_neg ha]
    unfold UniqP at *
    rw [List.pairwise_append]
    refine ⟨h, by simp, fun a ha' b hb e => ?_⟩
    rw [List.mem_singleton.1 hb] at e
    exact ha (List.any_eq_true.2 ⟨a, ha', by simpa using e⟩)
theorem PuM.store {W : World} {m N : Nat} {ps : List Pu} (h : PuM W m N ps) (q : Pu) (hx : -1000000000000 ≤ q.owner ∧ q.owner ≤ 1000000000000) (hn : N < maxLen) :
    ∃ W', (Instr.mapUpdate 93 (.map (some m)) (.int .i64 q.owner) (.agg q.v)).run Tryz.prog W = .ok () W' ∧ PuM W' m (N + 1) (putP ps q) ∧ W.grownBy W' (some m) := by
  obtain ⟨D, h1, h2, h3⟩ := h
  have hk := keyOf_int_mk (P := Tryz.prog) (k := 3) Tryz.underlying3 (wfI hx)
  obtain ⟨W', hrun, hown, hg⟩ := h1.update law3 Tryz.underlying93 hn hk (puR_mk q)
  have hkl : WideAt.IsKeyLit (.int .i64 q.owner) := law3.key hk
  have hinj : ∀ y : Int, y ≠ q.owner → (Lit.int .i64 y) ≠ .int .i64 q.owner := fun y hy e => hy (by injection e)
  refine ⟨W', hrun, ⟨_, hown, fun y => ?_, fun p hp z => ?_⟩, hg⟩
  · rw [putP_any]
    by_cases e : y = q.owner
    · subst e
      rw [has_put_same h1.isMap hkl]
      simp
    · rw [has_put_other (hinj y e), h2]
      simp [Ne.symm e]
  · rcases putP_mem hp with rfl | ⟨hp, hne⟩
    · exact atKey_put_same h1.isMap hkl _ _
    · rw [atKey_put_other (hinj _ hne)]
      exact h3 p hp z
theorem PuM.at {W : World} {m N : Nat} {ps : List Pu} (h : PuM W m N ps) {x : Int} (hx : -1000000000000 ≤ x ∧ x ≤ 1000000000000) (hz : (zeroValue 47).run Tryz.prog W = .ok (.agg #[.int .i64 0, .int .i64 0, .int .i64 0]) W) :
    (Instr.lookup 93 (.map (some m)) (.int .i64 x) false).run Tryz.prog W = .ok (.agg (atP ps x).v) W := by
  obtain ⟨D, h1, h2, h3⟩ := h
  have hk := keyOf_int_mk (P := Tryz.prog) (k := 3) Tryz.underlying3 (wfI hx)
  obtain ⟨v, zp, hrun, hv⟩ := h1.lookup law3 Tryz.underlying93 hz (puR_mk ⟨0, 0, 0⟩) hk
  obtain ⟨y, rfl, hy⟩ := puR_inv hv
  have e : y = atP ps x := by
    refine puD_inj ?_
    have h5 : D.atKey (.int .i64 x) (puD ⟨0, 0, 0⟩) = puD y := (congrArg Prod.fst hy)
    rw [← h5]
    unfold atP
    cases hf : ps.find? fun p => p.owner == x with
    | none =>
      have hno : has D (.int .i64 x) = false := by
        rw [h2]
        refine List.any_eq_false.2 fun q hq => ?_
        have := List.find?_eq_none.1 hf q hq
        simpa using this
      exact atKey_of_not_has hno _
    | some q =>
      have h6 := List.find?_some hf
      have h7 : q.owner = x := by simpa using h6
      rw [← h7]
      exact h3 q (List.mem_of_find?_eq_some hf) _
  rw [← e]
  exact hrun
end Go.Proofs.YtnkmcoljijmgpaaGreat

set_option linter.unusedSimpArgs false
set_option linter.unusedVariables false
namespace Go.Proofs.YtnkmcoljijmgpaaGreat
open Go.RowKit Go.Shelf Go.Maps
attribute [local go_sem] Oper.semAt_some wide_fn wide_dep wideR_fn wideR_dep
section
variable {F : Fence} {n : Nat} {P : Program}
/-- a range over a function that goes through a map; the loop variable is boxed -/
theorem rangeFunc_boxW {α : Type} {g : Operand} {tv : Tmp} {assign body : Code} {Q : Exit → Act → World → Prop} {a : Act} {w : World}
    (hro : F.round = none) (h1 : 1 ≤ n) {gf : Nat} {lb : Array Value} (hg : a.eval g = .func (.func gf) #[] lb) (hFg : F.fn gf) (eg : ∀ args w, (callFunc gf args).run P w = .ok (.enter gf args) w)
    {ev : α → Value} {S Sp : List α → Prop} {N : Nat} {w0 : World} (hseq : SeqStopsK F (n - 1) P gf lb (fun x => #[ev x]) KeepsWalks S Sp N w0)
    (hb0 : Below w0.heap.size w0 w)
    (I : List α → World → Prop) (Ix : Code → List α → World → Prop) (hI : OwnFrom w.heap.size I) (hIx : ∀ c, OwnFrom w.heap.size (Ix c)) (hIs : ∀ pre W, I pre W → w.heap.size ≤ W.heap.size) (h0 : I [] w)
    (tb : Tmp) (tt : TypeId) (bx : α → Array Value)
    (hassign : ∀ (l : Nat) (x : α) (W : World) (K : Act → World → Prop), K { tmps := (a.tmps.setIfInBounds tv (ev x)).setIfInBounds tb (.pointer (some ⟨W.heap.size, 0, none⟩)), defers := [] } (W.alloc (.cells (bx x) tt)) →
      assign.wpIn (F.inRound l) (n - 1 - 1) P (Exit.then K (fun _ _ _ => False)) { tmps := a.tmps.setIfInBounds tv (ev x), defers := [] } W)
    (hbody : ∀ (l : Nat) (pre : List α) (x : α) (Bp : Nat) (W : World), w.heap.size ≤ l → (∃ r, W.heap[l]? = some (.loop r)) → I pre W → w.heap.size ≤ Bp → Blk W Bp tt (bx x) → pre.length < N →
      body.wpIn (F.inRound l) (n - 1 - 1) P (ownPostG w.heap.size KeepsWalks I Ix (pre ++ [x]) W) { tmps := (a.tmps.setIfInBounds tv (ev x)).setIfInBounds tb (.pointer (some ⟨Bp, 0, none⟩)), defers := [] } W)
    (hdone : ∀ (D : Nat) (xs : List α) (W : World), w.heap.size ≤ D → S xs → I xs W → W.heap[D]? = some (.deferred (some [])) → Q .normal { a with defers := { target := .collected D, args := #[] } :: a.defers } W)
    (hstop : ∀ (D : Nat) (c : Code) (pre : List α) (W : World), w.heap.size ≤ D → Sp pre → Ix c pre W → W.heap[D]? = some (.deferred (some [])) → c.wpIn F n P Q { a with defers := { target := .collected D, args := #[] } :: a.defers } W) :
    (Code.rangeFunc g #[tv] assign body).wpIn F n P Q a w := by
  refine wpIn_rangeFunc_ownH hro h1 hg hFg eg hseq walksK_t walksK_b hb0 (fun _ => rfl) I Ix hI hIx h0
    (fun x a' W => ∃ Bp, w.heap.size ≤ Bp ∧ Blk W Bp tt (bx x) ∧ a' = { tmps := (a.tmps.setIfInBounds tv (ev x)).setIfInBounds tb (.pointer (some ⟨Bp, 0, none⟩)), defers := [] })
    ?_ ?_ ?_ hdone hstop
  · rintro x a' _ X Y row ⟨Bp, h1, h2, h3⟩ hg' hr
    exact ⟨Bp, h1, blk_own Bp tt (fun _ : Unit => bx x) () X Y row h2 hg' (fun r e => (hr r e).2), h3⟩
  · intro l pre x W K hi hK
    have e : ((#[tv] : Array Tmp).zip #[ev x]).foldl (fun t (p, v) => t.setIfInBounds p v) a.tmps = a.tmps.setIfInBounds tv (ev x) := by simp
    rw [e]
    refine hassign l x W K (hK _ _ ((KeepsOthers.alloc W _).from _) ?_ (hI.alloc _ hi) ⟨W.heap.size, hIs _ _ hi, Blk.new _ _ _, rfl⟩)
    exact KeepsWalks.alloc W _
  · rintro l pre x a' W hl hr hi ⟨Bp, h1, h2, rfl⟩ hN
    exact hbody l pre x Bp W hl hr hi h1 h2 hN
end
/-- a range over a map of purses under way -/
def PRng (W : World) (m r N : Nat) (ps qs : List Pu) (cnt : Nat) : Prop := ∃ (D : DataW Unit) (left : Lit → Bool), W.ranges Tryz.prog 3 puR m r N D left cnt ∧ (∀ q, q ∈ ps → ∀ z, D.atKey (.int .i64 q.owner) z = puD q) ∧ (∀ x : Int, left (.int .i64 x) = qs.any fun p => p.owner == x) ∧ ∀ q ∈ qs, q ∈ ps
theorem PRng.left_eq {W : World} {m r N : Nat} {ps qs : List Pu} {cnt : Nat} (h : PRng W m r N ps qs cnt) : W.rangeLeft m r = cnt := by
  obtain ⟨D, left, h1, _⟩ := h
  exact h1.left_eq
theorem PRng.kept {W W' : World} {m r N : Nat} {ps qs : List Pu} {cnt : Nat} (h : PRng W m r N ps qs cnt) (hk : KeepsWalks W W') : PRng W' m r N ps qs cnt := by
  obtain ⟨D, left, h1, h2⟩ := h
  exact ⟨D, left, h1.of_walks hk, h2⟩
theorem PRng.walk {W : World} {m r N : Nat} {ps qs : List Pu} {cnt : Nat} (h : PRng W m r N ps qs cnt) : ∃ o : Obj, W.heap[r]? = some o ∧ o.isWalk = true := by
  obtain ⟨D, left, ⟨es, clock, since, seen, c0, hb, F, hs, hD, hr, _⟩, _⟩ := h
  exact ⟨_, hr, rfl⟩
section
variable {F : Fence} {n : Nat} {ops : Array Oper} {rest : List Oper} {o : Oper} {a : Act} {Q : Exit → Act → World → Prop}
set_option maxRecDepth 100000 in
theorem wpListIn_range_pu (w : World) (hg : o.guard = none) (mo : Operand) (hop : o.op = Op.range 93 mo) {m N : Nat} {ps : List Pu} (hm : a.eval mo = .map (some m)) (hw : PuM w m N ps)
    (hK : ∀ w', PRng w' m w.heap.size N ps ps (w'.rangeLeft m w.heap.size) → w.grownBy w' none → w'.heap.size = w.heap.size + 1 → wpListIn F n Tryz.prog ops Q rest (a.put o.dst (.pointer (some ⟨w.heap.size, 0, none⟩))) w') :
    wpListIn F n Tryz.prog ops Q (o :: rest) a w := by
  obtain ⟨D, h1, h2, h3⟩ := hw
  refine wpListIn_range_own w hg mo 93 hop 3 47 law3 Tryz.underlying93 puR m N D hm h1 (fun w' hr hgr hsz => hK w' ?_ hgr hsz)
  exact ⟨D, _, by rw [hr.left_eq]; exact hr, h3, h2, fun q h => h⟩
set_option maxRecDepth 100000 in
theorem wpListIn_next_pu (w : World) (hg : o.guard = none) (it : Operand) (hop : o.op = Op.next it false) {m r N : Nat} {ps qs : List Pu} {cnt : Nat} (hit : a.eval it = .pointer (some ⟨r, 0, none⟩)) (h : PRng w m r N ps qs cnt)
    (hDone : qs = [] → wpListIn F n Tryz.prog ops Q rest (a.put o.dst (.tuple #[.bool false])) w)
    (hMore : ∀ q : Pu, q ∈ qs → ∀ w' cnt', PRng w' m r N ps (qs.filter fun p => p.owner != q.owner) cnt' → cnt' < cnt → w.grownBy w' (some r) → w'.heap.size = w.heap.size → (Instr.entry (.pointer (some ⟨r, 0, none⟩))).run Tryz.prog w' = .ok (.tuple #[.int .i64 q.owner, .agg q.v]) w' → wpListIn F n Tryz.prog ops Q rest (a.put o.dst (.tuple #[.bool true, .int .i64 q.owner, .agg q.v])) w') :
    wpListIn F n Tryz.prog ops Q (o :: rest) a w := by
  obtain ⟨D, left, h1, h2, h3, h4⟩ := h
  refine wpListIn_next_ranges w hg it hop 3 law3 puR (Value.int .i64) (fun x : Pu => .agg x.v) (fun key kl hkey => by obtain ⟨x, rfl, _⟩ := Maps.keyOf_int_inv Tryz.underlying3 hkey; exact ⟨x, rfl⟩) (fun v y hv => by obtain ⟨c, rfl, _⟩ := puR_inv hv; exact ⟨c, rfl⟩) m r N D left cnt hit h1 (fun _ hl => hDone ?_) (fun x c kl y w' cnt' hkey hlx hR hat hr hlt hgr hsz hen => ?_)
  · rw [List.eq_nil_iff_forall_not_mem]
    intro q hq
    have e := h3 q.owner
    rw [hl] at e
    have e' := List.any_eq_false.1 e.symm q hq
    simp at e'
  · obtain ⟨x', hx', rfl, hwf⟩ := Maps.keyOf_int_inv Tryz.underlying3 hkey
    cases hx'
    rw [h3 x] at hlx
    obtain ⟨q, hq, hqx⟩ := List.any_eq_true.1 hlx
    have hqe : q.owner = x := by simpa using hqx
    rw [puR_mk] at hR
    have hy : y = (puD c, []) := by injection hR with hR; exact hR.symm
    have hc := h2 q (h4 q hq) .nil
    rw [hqe, hat, hy] at hc
    have hcq : c = q := puD_inj hc
    subst hcq
    subst hqe
    refine hMore c hq w' cnt' ⟨D, _, hr, h2, fun y => ?_, fun p hp => h4 p (List.mem_filter.1 hp).1⟩ hlt hgr hsz hen
    simp only [h3]
    have hsk : (Lit.int .i64 y).sameKey (.int .i64 c.owner) = (y == c.owner) := by
      have := WideAt.sameKey_iff (a := .int .i64 y) (b := .int .i64 c.owner) (law3.key (keyOf_int_mk Tryz.underlying3 hwf))
      by_cases e : y = c.owner
      · subst e
        rw [this.2 rfl]
        simp
      · have h9 : ¬ (Lit.int .i64 y).sameKey (.int .i64 c.owner) = true := fun hh => e (by have := this.1 hh; injection this)
        rw [Bool.not_eq_true] at h9
        rw [h9]
        simp [e]
    rw [hsk, List.any_filter]
    by_cases e : y = c.owner
    · subst e
      simp
    · have hb : (y == c.owner) = false := by simpa using e
      rw [hb]
      simp only [Bool.not_false, Bool.and_true]
      congr 1
      funext p
      by_cases e2 : p.owner = y
      · subst e2
        simp [e]
      · simp [e2]
end
theorem filter_permP {qs : List Pu} (hk : UniqP qs) {q : Pu} (hq : q ∈ qs) : qs.Perm (q :: qs.filter fun p => p.owner != q.owner) := by
  induction qs with
  | nil => simp at hq
  | cons a l ih =>
    have hk2 := List.pairwise_cons.1 hk
    rcases List.mem_cons.1 hq with rfl | hq
    · rw [List.filter_cons_of_neg (by simp)]
      have e : l.filter (fun p => p.owner != q.owner) = l := List.filter_eq_self.2 (fun p hp => by simpa using (hk2.1 p hp).symm)
      rw [e]
    · have hne : a.owner ≠ q.owner := hk2.1 q hq
      rw [List.filter_cons_of_pos (by simpa using hne)]
      exact ((ih hk2.2 hq).cons a).trans (List.Perm.swap ..)
set_option maxRecDepth 100000 in
set_option maxHeartbeats 4000000 in
theorem pvals_in (n : Nat) (hn : 1 ≤ n) (l Bm m N : Nat) (ps : List Pu) (hd : UniqP ps) (J Jx : List Pu → World → Prop)
    (W : World) (hJ : AbidesFrom W.heap.size J)
    (hY : ∀ pre x W1, J pre W1 → pre.length < ps.length → YieldAt Fence.wide (n - 1) Tryz.prog l #[.agg x.v] W1 fun e W' => (e = .returned (.bool true) ∧ J (pre ++ [x]) W' ∧ KeepsWalks W1 W') ∨ (e = .returned (.bool false) ∧ Jx (pre ++ [x]) W'))
    (hBm : Blk W Bm 93 #[.map (some m)]) (hm : PuM W m N ps) (h0 : J [] W) :
    CallsIn Fence.wide n Tryz.prog 81 #[.func (.yield l) #[] #[], .pointer (some ⟨Bm, 0, none⟩)] W fun e W' => (∃ v, e = .returned v) ∧ ((∃ xs : List Pu, xs.Perm ps ∧ J xs W') ∨ (∃ pre, True ∧ Jx pre W')) := by
  have m0 := hBm.cell 0
  have lB := hBm.lt
  refine callsIn_of_wp Tryz.func81 rfl trivial ?_ rfl
  simp only [Tryz.ntmps81, List.size_toArray, List.length_cons, List.length_nil, Nat.reduceAdd, Nat.reduceSub, Array.replicate_succ, Array.replicate_zero, List.push_toArray, List.append_toArray, List.nil_append, List.cons_append]
  gi_wp2_with (first | (gi_at_range; refine wpListIn_range_pu _ rfl _ rfl rfl hm ?_; intro w0 hrg0 hg0 hs0) | gi_in)
  go_frame
  have HY := Lib.hid hY
  clear hY hm m0 lB
  gi_loopw [4] (fun _ wr => ∃ (xs qs : List Pu) (cnt : Nat), PRng wr m W.heap.size N ps qs cnt ∧ Hid ((xs ++ qs).Perm ps) ∧ Hid (UniqP qs) ∧ Hid (J xs wr)) (fun _ wr => wr.rangeLeft m W.heap.size)
  case atStart => exact ⟨[], ps, _, hrg0, by show ([] ++ ps).Perm ps; exact List.Perm.refl _, hd, hJ _ _ _ none h0 hg0 (fun r e => by cases e)⟩
  case round =>
    clear hrg0
    obtain ⟨xs, qs, cnt, hrg, HP, HU, HJ⟩ := hrel
    obtain ⟨wo, rfl⟩ : ∃ wo, wo = wr := ⟨_, rfl⟩
    gi_wp2_with (first | (gi_at_next; refine wpListIn_next_pu _ rfl _ rfl rfl hrg ?_ ?_) | gi_in)
    · intro h0
      subst h0
      gi_wp2_with gi_in
      go_end0
      have := HP.out
      rw [List.append_nil] at this
      exact ⟨⟨_, rfl⟩, .inl ⟨xs, this, HJ.out⟩⟩
    · intro q hq w5 cnt5 hrg5 hlt5 hg5 hs5 hen
      have hj5 := hJ _ _ _ (some W.heap.size) HJ.out hg5 (fun r e => by cases e; exact ⟨Nat.le_refl _, hrg.walk⟩)
      have hfp := filter_permP HU.out hq
      have hlen : xs.length < ps.length := by
        have := HP.out.length_eq
        rw [List.length_append] at this
        have h2 : 0 < qs.length := List.length_pos_of_mem hq
        omega
      have HP2 : Hid ((xs ++ [q] ++ qs.filter fun p => p.owner != q.owner).Perm ps) := by
        refine List.Perm.trans ?_ HP.out
        rw [List.append_assoc]
        exact List.Perm.append_left _ hfp.symm
      have HU2 := Lib.hid (show UniqP (qs.filter fun p => p.owner != q.owner) from List.Pairwise.filter _ HU.out)
      have hj6 := hJ _ _ _ none hj5 (World.grownBy_alloc w5 (.cells q.v 47) none) (fun r e => by cases e)
      obtain ⟨fn, tmps, assign, body, hy', hR⟩ := HY.out xs q _ hj6 hlen
      have hR2 := Lib.hid hR
      have hrg6 := hrg5.kept (KeepsWalks.alloc w5 (.cells q.v 47))
      clear hR hfp hj5 hj6 hq hs5 hg5
      obtain ⟨qs', hqs'⟩ : ∃ qs', qs' = qs.filter fun p => p.owner != q.owner := ⟨_, rfl⟩
      rw [← hqs'] at hrg6 HP2 HU2
      clear hqs' hrg5
      obtain ⟨qo, qst, qp⟩ := q
      unfold Pu.v at *
      dsimp only at *
      gi_wp2_with gi_in
      refine hR2.out.mono ?_
      rintro e W3 (⟨rfl, hJ3, hk3⟩ | ⟨rfl, hJx3⟩)
      · gi_wp2_with gi_in
        go_roundw
        case rel => exact ⟨_, qs', cnt5, hrg6.kept hk3, HP2.out, HU2.out, hJ3⟩
        case measure => rw [(hrg6.kept hk3).left_eq, hrg.left_eq]; exact hlt5
      · gi_wp2_with gi_in
        refine bodyPost_ret (results_none rfl _ _ _) rfl ?_
        exact ⟨⟨_, rfl⟩, .inr ⟨_, trivial, hJx3⟩⟩
theorem pvals_stops (n : Nat) (hn : 1 ≤ n) (Bm m N : Nat) (ps : List Pu) (hd : UniqP ps) (w : World) (hBm : Blk w Bm 93 #[.map (some m)]) (hm : PuM w m N ps) :
    SeqStopsK Fence.wide n Tryz.prog 81 #[.pointer (some ⟨Bm, 0, none⟩)] (fun x : Pu => #[.agg x.v]) KeepsWalks (fun xs => xs.Perm ps) (fun _ => True) ps.length w :=
  fun l J Jx W hW hJ _ hY h0 => pvals_in n hn l Bm m N ps hd J Jx W hJ hY (hBm.keep hW) (hm.keep hW) h0
theorem pvalues_any (m : Nat) (w : World) : Calls Tryz.prog 55 #[.map (some m)] w fun e w' => e = .returned (.func (.func 81) #[] #[.pointer (some ⟨w.heap.size, 0, none⟩)]) ∧ w' = w.alloc (.cells #[.map (some m)] 93) := by
  go_enter Tryz.func55, Tryz.ntmps55
  go_wp2
  go_ret
  exact ⟨rfl, rfl⟩
def PApInv (w : World) (pre : List Pu) (W : World) : Prop :=
  ∃ v, Blk W w.heap.size 43 #[v] ∧ W.ownsRow (w.heap.size + 1) 47 3 v pre.length (puV pre) ∧ G w W ∧ w.heap.size + 1 ≤ W.heap.size
theorem papInv_own (w : World) (B : Nat) (hB : w.heap.size + 1 ≤ B) : OwnFrom B (PApInv w) := by
  rintro pre X Y row ⟨v, b1, hr, hG, hs⟩ hg hrow
  have hn : some w.heap.size ≠ row := fun e => by
    obtain ⟨_, o, ho, hc⟩ := hrow _ e.symm
    rw [show X.heap[w.heap.size]? = _ from b1] at ho; cases ho; cases hc
  exact ⟨v, b1.grown hg hn, ownsRow_kept' hr hg (fun r e => (hrow r e).2), (((G.fr (R := fun _ => False) hG).grown hg (fun g e => .inr (by have := (hrow g e).1; omega)))).toG (fun _ _ h => h), Nat.le_trans hs hg.size⟩
theorem info47 : (Tryz.prog.info? 47).map (fun i => (i.zero, i.size, i.bytes)) = some (some (.agg #[.int .i64 0, .int .i64 0, .int .i64 0]), 3, 24) := by kernel_rfl
set_option maxRecDepth 100000 in
set_option maxHeartbeats 4000000 in
theorem pappend_in (n : Nat) (hn : 3 ≤ n) (Bm m N : Nat) (ps : List Pu) (hd : UniqP ps) (hlen : ps.length ≤ 1000) (w : World) (hBm : Blk w Bm 93 #[.map (some m)]) (hm : PuM w m N ps) :
    CallsIn Fence.wide n Tryz.prog 103 #[.slice none 0 0, .func (.func 81) #[] #[.pointer (some ⟨Bm, 0, none⟩)]] w fun e w' =>
      ∃ v l, e = .returned v ∧ l.Perm ps ∧ w'.ownsRow w.heap.size 47 3 v l.length (puV l) ∧ G w w' := by
  refine callsIn_of_wp_marks Tryz.func103 rfl trivial ?_ rfl
  simp only [Tryz.ntmps103, List.size_toArray, List.length_cons, List.length_nil, Nat.reduceAdd, Nat.reduceSub, Array.replicate_succ, Array.replicate_zero, List.push_toArray, List.append_toArray, List.nil_append, List.cons_append]
  gi_wp2
  refine rangeFunc_boxW (F := Fence.wide) (α := Pu) (gf := 81) (lb := #[.pointer (some ⟨Bm, 0, none⟩)]) rfl (by omega) rfl trivial (enters_of Tryz.func81 (by kernel_rfl) rfl)
    (ev := fun x => .agg x.v) (pvals_stops (n - 1) (by omega) Bm m N ps hd (w.alloc (.cells #[.slice none 0 0] 43)) (hBm.alloc _) (hm.keep ((G.rf _).a _)))
    (Below.refl _ _) (PApInv w) (fun _ _ _ => False) (papInv_own _ _ (by simp)) (fun _ _ _ _ _ h _ _ => h) ?hIs ?h0 5 47 (fun x => x.v) ?assign ?body ?done ?stop
  case hIs =>
    rintro pre W ⟨v, _, _, _, hs⟩
    simpa using hs
  case h0 => exact ⟨_, Blk.new _ _ _, World.ownsRow_nil _ _ _ _, (G.rf _).a _, by simp⟩
  case assign =>
    intro l x W K hK
    unfold Pu.v at hK ⊢
    gi_wp2
    exact hK
  case body =>
    rintro l pre x Bp W hl hrec ⟨v, b1, hr, hG, hs⟩ hBp hbp hN
    obtain ⟨i0, hi0, hz0, hz1, hz2⟩ := info_parts info47
    have c0 := b1.cell 0
    have lA := b1.lt
    have nA := own_ne hr b1 (by decide)
    have hsn : puV (pre ++ [x]) = puV pre ++ puE x := puV_snoc pre x
    obtain ⟨xo, xs, xp⟩ := x
    unfold puE at hsn
    unfold Pu.v at *
    dsimp only at *
    have d0 := hbp.cell 0
    have d1 := hbp.cell 1
    have d2 := hbp.cell 2
    have lp := hbp.lt
    gi_wp2_with (gi_at_builtin; refine wpListIn_append_own _ rfl _ _ 43 rfl (w.heap.size + 1) 47 i0 (.agg #[.int .i64 0, .int .i64 0, .int .i64 0]) 3 24 Tryz.underlying43 hi0 hz0 hz1 hz2 rfl (by decide) _ _ _ rfl (hr.alloc _) ⟨W.heap.size, 0, none⟩ 1 1 [.int .i64 xo, .int .i64 xs, .int .i64 xp] rfl rfl (cell_new5 _ _ _) (by simp [Value.oneCell']) (by unfold maxLen; omega) (by omega) (by simp; omega) ?_; intro v' w3 hown' hg3 hnil3; have b3 := (b1.alloc (.cells #[.int .i64 xo, .int .i64 xs, .int .i64 xp] 47)).grown hg3 nA; have c3 := b3.cell 0; have z3 := b3.frozen 0; obtain ⟨g', cap', rfl⟩ : ∃ g' cap', v' = .slice (some ⟨g', 0, none⟩) (pre.length + 1) cap' := (by
         rcases hown'.2 with ⟨_, h0⟩ | ⟨g', cap', _, h1, _⟩
         · exact absurd h0 (by omega)
         · exact ⟨g', cap', h1⟩); go_frame)
    have bE := b3.set_ 0 (.slice (some ⟨g', 0, none⟩) (pre.length + 1) cap')
    have hownE := hown'.kept (grownBy_set w3 ⟨w.heap.size, 0, none⟩ (.slice (some ⟨g', 0, none⟩) (pre.length + 1) cap')) (.inr (own_ne hown' b3 (by decide)).symm)
    have frE : Fr (fun i => i = w.heap.size ∨ v.ownBlock = some i) W (w3.setCell ⟨w.heap.size, 0, none⟩ (.slice (some ⟨g', 0, none⟩) (pre.length + 1) cap')) :=
      (((Fr.rf _ W).a _).grown hg3 (fun g e => .inl (.inr e))).s (.inl (.inl rfl)) _
    generalize w3.setCell ⟨w.heap.size, 0, none⟩ (.slice (some ⟨g', 0, none⟩) (pre.length + 1) cap') = wE at *
    have hB3 : ∀ i, v.ownBlock = some i → w.heap.size + 1 ≤ i := fun i h => own_base hr h
    have hcs : ∀ i, (i = w.heap.size ∨ v.ownBlock = some i) → i < W.heap.size → ∃ c t f, W.heap[i]? = some (.cells c t f) := by
      rintro i (rfl | h) _
      · exact ⟨_, _, _, b1⟩
      · exact own_cells hr h
    refine ⟨frE.keeps hcs _, ⟨frE.size, fun i o hi ho => ?_⟩, ?_⟩
    · refine (frE.block i (Array.getElem?_eq_some_iff.1 hi).1 (fun e => ?_)).trans hi
      obtain ⟨c, t, f, h5⟩ := hcs i e (Array.getElem?_eq_some_iff.1 hi).1
      rw [h5] at hi
      cases hi
      cases ho
    · refine ⟨_, bE, by rw [List.length_append, hsn]; exact hownE, ((G.fr (R := fun _ => False) hG).t2 frE (fun i hi h => ?_)).toG (fun _ _ h => h), Nat.le_trans hs frE.size⟩
      rcases h with h | h
      · omega
      · have := hB3 _ h; omega
  case done =>
    rintro D xs W hD hS ⟨v, b1, hr, hG, hs⟩ hDef
    have c0 := b1.cell 0
    gi_wp2
    refine ⟨by simp, .inl ⟨_, _, rfl, run_takeDeferred hDef, ?_⟩⟩
    refine ⟨_, results_tmp rfl _ _ _, _, xs, rfl, hS, ?_, ?_⟩
    · exact own_weaken (ownsRow_kept' (row := some D) hr ⟨rfl, rfl, rfl, by simp [World.putObj], fun i _ hn => World.putObj_heap_other (fun e => hn (by rw [e]))⟩ (fun r e => by cases e; exact ⟨_, hDef, rfl⟩)) (by omega)
    · have hf : Fr (fun i => i = D) W (W.putObj D (.deferred none)) := ⟨rfl, rfl, rfl, by simp [World.putObj], fun i _ hn => World.putObj_heap_other hn⟩
      refine ((G.fr (R := fun _ => False) hG).t2 hf (fun i hi h => ?_)).toG (fun _ _ h => h)
      simp at hD
      omega
  case stop =>
    rintro D c pre W _ _ h _
    exact h.elim
theorem pcollect_any (Bm m N : Nat) (ps : List Pu) (hd : UniqP ps) (hlen : ps.length ≤ 1000) (w : World) (hBm : Blk w Bm 93 #[.map (some m)]) (hm : PuM w m N ps) :
    Calls Tryz.prog 79 #[.func (.func 81) #[] #[.pointer (some ⟨Bm, 0, none⟩)]] w fun e w' => ∃ v l, e = .returned v ∧ l.Perm ps ∧ w'.ownsRow w.heap.size 47 3 v l.length (puV l) ∧ G w w' := by
  have HA := Lib.hid ((callsIn_wide (n := 3)).1 (pappend_in 3 (by omega) Bm m N ps hd hlen w hBm hm))
  go_enter Tryz.func79, Tryz.ntmps79
  go_wp2_with (go_at_call 103; refine HA.out.mono ?_; rintro e w1 ⟨v, l, rfl, hp, ho, hG⟩)
  go_ret
  exact ⟨v, l, rfl, hp, ho, hG⟩
theorem srtP_perm_eq {l ps : List Pu} (hd : UniqP ps) (hp : l.Perm ps) : srtP l = srtP ps := (srtP_unique hd ((srtP_perm l).trans hp) (srtP_pw l))
theorem uniqP_perm {l ps : List Pu} (hd : UniqP ps) (hp : l.Perm ps) : UniqP l := (hp.pairwise_iff (fun h e => h e.symm)).2 hd
/-- slices.SortedFunc at the purses of a map -/
theorem psorted_any (Bm m N : Nat) (ps : List Pu) (hd : UniqP ps) (hlen : ps.length ≤ 1000) (w : World) (hBm : Blk w Bm 93 #[.map (some m)]) (hm : PuM w m N ps) :
    Calls Tryz.prog 54 #[.func (.func 81) #[] #[.pointer (some ⟨Bm, 0, none⟩)], .func (.func 56) #[] #[]] w fun e w' => ∃ v, e = .returned v ∧ w'.ownsRow w.heap.size 47 3 v ps.length (puV (srtP ps)) ∧ G w w' := by
  have HC := Lib.hid (pcollect_any Bm m N ps hd hlen w hBm hm)
  have HL := Lib.hid hlen
  have HD := Lib.hid hd
  clear hd hlen hm
  go_enter Tryz.func54, Tryz.ntmps54
  go_wp2_with (first | (go_at_call 79; refine HC.out.mono ?_; rintro e w1 ⟨v, l, rfl, hp, ho, hG⟩) | (go_at_call 80; refine (sortP_own l (uniqP_perm HD.out hp) (by rw [hp.length_eq]; exact HL.out) _ _ _ ho).mono ?_; rintro e w2 ⟨rfl, ho2, hg2⟩))
  go_ret
  exact ⟨v, rfl, by rw [← hp.length_eq, ← srtP_perm_eq HD.out hp]; exact ho2, grow_own hG ho (Nat.le_refl _) hg2⟩
end Go.Proofs.YtnkmcoljijmgpaaGreat

set_option linter.unusedSimpArgs false
set_option linter.unusedVariables false
namespace Go.Proofs.YtnkmcoljijmgpaaGreat
open Go.RowKit Go.Shelf Go.Maps
attribute [local go_sem] Oper.semAt_some
def addP (x : Pu) (s p : Int) : Pu := ⟨x.owner, x.staked + s, x.paid + p⟩
/-- the purses behind the first k racers -/
def pu0 (l : List Rc) : Nat → List Pu
  | 0 => []
  | k + 1 => putP (pu0 l k) ⟨(l.getD k default).owner, 0, 0⟩
/-- .. behind the first j prizes of a pool -/
def puIn (f : Fu) (acc : List Pu) : Nat → List Pu
  | 0 => acc
  | j + 1 => putP (puIn f acc j) (addP (atP (puIn f acc j) (f.rs.getD j default).owner) f.po.stake (((prizesL f).getD j default).won + ((prizesL f).getD j default).back))
/-- .. behind the first k pools -/
def puTo (r : Ra) : Nat → List Pu
  | 0 => pu0 r.racers r.racers.length
  | k + 1 => puIn (fuOf r k none 0) (puTo r k) (runners r k).length
def pursesL (r : Ra) : List Pu := srtP (puTo r r.pools.length)
/-- bounds -/
structure PB (c : Nat) (ps : List Pu) : Prop where
  uniq : UniqP ps
  own : ∀ p ∈ ps, 0 ≤ p.owner ∧ p.owner ≤ 99
  st : ∀ p ∈ ps, 0 ≤ p.staked ∧ p.staked ≤ 100000 * c
  pd : ∀ p ∈ ps, 0 ≤ p.paid ∧ p.paid ≤ 3000000 * c
theorem putP_len (ps : List Pu) (q : Pu) : (putP ps q).length ≤ ps.length + 1 := by
  unfold putP
  split
  · rw [List.length_map]; omega
  · rw [List.length_append]; simp
theorem PB.put {c c' : Nat} {ps : List Pu} (h : PB c ps) (hc : c ≤ c') {q : Pu} (h1 : 0 ≤ q.owner ∧ q.owner ≤ 99) (h2 : 0 ≤ q.staked ∧ q.staked ≤ 100000 * c') (h3 : 0 ≤ q.paid ∧ q.paid ≤ 3000000 * c') : PB c' (putP ps q) where
  uniq := putP_uniq h.uniq q
  own p hp := by
    rcases putP_mem hp with rfl | ⟨hp, _⟩
    · exact h1
    · exact h.own p hp
  st p hp := by
    rcases putP_mem hp with rfl | ⟨hp, _⟩
    · exact h2
    · have := h.st p hp; omega
  pd p hp := by
    rcases putP_mem hp with rfl | ⟨hp, _⟩
    · exact h3
    · have := h.pd p hp; omega
theorem PB.at {c : Nat} {ps : List Pu} (h : PB c ps) (x : Int) : (0 ≤ (atP ps x).owner ∧ (atP ps x).owner ≤ 99) ∧ (0 ≤ (atP ps x).staked ∧ (atP ps x).staked ≤ 100000 * c) ∧ (0 ≤ (atP ps x).paid ∧ (atP ps x).paid ≤ 3000000 * c) := by
  unfold atP
  cases hf : ps.find? fun p => p.owner == x with
  | none => simp; omega
  | some q =>
    have hm := List.mem_of_find?_eq_some hf
    exact ⟨h.own q hm, h.st q hm, h.pd q hm⟩
theorem pu0_pb {l : List Rc} (h : ∀ x ∈ l, 0 ≤ x.owner ∧ x.owner ≤ 99) : ∀ k, k ≤ l.length → PB 0 (pu0 l k) ∧ (pu0 l k).length ≤ k
  | 0, _ => ⟨⟨List.Pairwise.nil, fun p hp => by simp [pu0] at hp, fun p hp => by simp [pu0] at hp, fun p hp => by simp [pu0] at hp⟩, Nat.le_refl _⟩
  | k + 1, hk => by
    obtain ⟨ih, il⟩ := pu0_pb h k (by omega)
    refine ⟨ih.put (Nat.le_refl _) (h _ ?_) ⟨Int.le_refl _, by show (0 : Int) ≤ _; omega⟩ ⟨Int.le_refl _, by show (0 : Int) ≤ _; omega⟩, Nat.le_trans (putP_len _ _) (by omega)⟩
    rw [List.getD_eq_getElem?_getD, List.getElem?_eq_getElem (by omega)]
    exact List.getElem_mem _
theorem share_bd (A : Int) (n i : Nat) (hA : 0 ≤ A) (hn : 1 ≤ n) : shareI A n i ≤ A + 1 := by
  unfold shareI
  have : A / (n : Int) ≤ A := Int.ediv_le_self _ hA
  split <;> omega
theorem prizesL_bd {f : Fu} (h : WonFacts f []) (j : Nat) (hj : j < f.rs.length) : (0 ≤ ((prizesL f).getD j default).won ∧ ((prizesL f).getD j default).won ≤ 1200000) ∧ (0 ≤ ((prizesL f).getD j default).back ∧ ((prizesL f).getD j default).back ≤ 1200001) := by
  have e : (prizesL f).getD j default = ⟨(f.rs.getD j default).bird, wonAt (wonL f []) (f.rs.getD j default).bird, shareI (resI f []) f.rs.length j⟩ := by
    have hl : j < (prizesL f).length := by rw [prizesL_len]; exact hj
    rw [List.getD_eq_getElem?_getD, List.getElem?_eq_getElem hl]
    simp [prizesL]
  rw [e]
  have h1 := wonAt_nonneg h.nonneg (f.rs.getD j default).bird
  have h2 := wonAt_le h.nonneg (f.rs.getD j default).bird
  have h3 := h.le
  have h4 := h.bound
  have h5 := h.pos
  have hr : 0 ≤ resI f [] ∧ resI f [] ≤ 1200000 := by unfold resI; omega
  have h6 := share_nonneg (resI f []) f.rs.length j hr.1
  have h7 := share_bd (resI f []) f.rs.length j hr.1 (by omega)
  dsimp only
  omega
theorem puIn_pb {f : Fu} {c : Nat} {acc : List Pu} (h : PB c acc) (hw : WonFacts f []) (hF : FuB f) : ∀ j, j ≤ f.rs.length → PB (c + j) (puIn f acc j) ∧ (puIn f acc j).length ≤ acc.length + j
  | 0, _ => ⟨h, Nat.le_refl _⟩
  | j + 1, hj => by
    obtain ⟨ih, il⟩ := puIn_pb h hw hF j (by omega)
    obtain ⟨a1, a2, a3⟩ := ih.at (f.rs.getD j default).owner
    obtain ⟨b1, b2⟩ := prizesL_bd hw j (by omega)
    have hs := hF.stake
    refine ⟨ih.put (by omega) a1 ?_ ?_, Nat.le_trans (putP_len _ _) (by omega)⟩
    · show 0 ≤ (atP _ _).staked + f.po.stake ∧ (atP _ _).staked + f.po.stake ≤ _
      omega
    · show 0 ≤ (atP _ _).paid + (_ + _) ∧ (atP _ _).paid + (_ + _) ≤ _
      omega
theorem inB_pool {r : Ra} {k : Nat} (h : k < r.pools.length) : isInB (k : Int) 0 ((r.pools.length : Int) - 1) = true := by
  unfold isInB
  simp only [Bool.and_eq_true, decide_eq_true_eq]
  omega
theorem fu_facts {r : Ra} (hr : raceB r = true) {k : Nat} (hk : k < r.pools.length) (fa : Option Addr) (fc : Nat) (st : List Int) : WonFacts (fuOf r k fa fc) st :=
  wonFacts_any (fu_bounds hr (inB_pool hk) fa fc) (pool_of hr (inB_pool hk)).2 (runners_uniq hr k) (fun x hx => racers_bd hr x (runners_sub hx).1) st
theorem racers_own {r : Ra} (h : raceB r = true) : ∀ x ∈ r.racers, 0 ≤ x.owner ∧ x.owner ≤ 99 := by
  have h1 := race_parts h
  unfold racersB at h1
  simp only [Bool.and_eq_true] at h1
  intro x hx
  obtain ⟨i, hi, rfl⟩ := List.mem_iff_getElem.1 hx
  have h2 := allU_iff.1 h1.2 i hi
  rw [List.getD_eq_getElem?_getD, List.getElem?_eq_getElem hi] at h2
  simp only [Bool.and_eq_true] at h2
  have h3 := h2.2
  unfold racerB at h3
  simp only [Bool.and_eq_true] at h3
  have h4 := h3.2.1
  unfold isInB at h4
  simpa using h4
theorem puTo_pb {r : Ra} (hr : raceB r = true) : ∀ k, k ≤ r.pools.length → PB (12 * k) (puTo r k) ∧ (puTo r k).length ≤ 12 + 12 * k
  | 0, _ => by
    obtain ⟨a, b⟩ := pu0_pb (racers_own hr) r.racers.length (Nat.le_refl _)
    exact ⟨a, Nat.le_trans b (uniq_of (race_parts hr)).1⟩
  | k + 1, hk => by
    obtain ⟨ih, il⟩ := puTo_pb hr k (by omega)
    obtain ⟨a, b⟩ := puIn_pb ih (fu_facts hr (show k < r.pools.length by omega) none 0 []) (fu_bounds hr (inB_pool (by omega)) none 0) (runners r k).length (Nat.le_refl _)
    have hl := runners_le hr (k : Int)
    refine ⟨⟨a.uniq, a.own, fun p hp => ?_, fun p hp => ?_⟩, Nat.le_trans b (by omega)⟩
    · have := a.st p hp; omega
    · have := a.pd p hp; omega
theorem race_pools {r : Ra} (h : raceB r = true) : r.pools.length ≤ 6 := by
  unfold raceB at h
  simp only [Bool.and_eq_true, decide_eq_true_eq] at h
  exact h.1
end Go.Proofs.YtnkmcoljijmgpaaGreat

set_option linter.unusedSimpArgs false
set_option linter.unusedVariables false
namespace Go.Proofs.YtnkmcoljijmgpaaGreat
open Go.RowKit Go.Shelf Go.Sort Go.Maps
attribute [local go_sem] Oper.semAt_some
def PuPost (r : Ra) (w : World) (e : Ending) (w' : World) : Prop := G w w' ∧ ((raceB r = false ∧ e = .returned (.tuple #[.slice none 0 0, .int .i64 80])) ∨ (raceB r = true ∧ ∃ v, e = .returned (.tuple #[v, .int .i64 0]) ∧ w'.ownsRow w.heap.size 47 3 v (pursesL r).length (puV (pursesL r))))
theorem PuM.ne_cell {W : World} {m N : Nat} {ps : List Pu} (h : PuM W m N ps) {g o : Nat} {v : Value} (hb : W.cell? ⟨g, o, none⟩ = some v) : g ≠ m := fun e => by
  subst e
  obtain ⟨D, h1, _⟩ := h
  obtain ⟨es, clock, hm, _⟩ := h1
  simp [World.cell?, hm] at hb
theorem fr_cell {A B : World} {m : Nat} (hf : Fr (fun i => i = m) A B) {g o : Nat} {v : Value} (hg : g < A.heap.size) (hne : g ≠ m) (h : A.cell? ⟨g, o, none⟩ = some v) : B.cell? ⟨g, o, none⟩ = some v := by
  have e := hf.block g hg hne
  simp only [World.cell?] at h ⊢
  rw [e]
  exact h
set_option maxRecDepth 100000 in
set_option maxHeartbeats 8000000 in
theorem Purses_any (r : Ra) (w : World) (h : r.At w) : Calls Tryz.prog 19 #[.agg r.v] w (PuPost r w) := by
  have HCK := Lib.hid (fun (W : World) (hW : G w W) => Check_any r W (h.keep hW))
  have hrow := h.rs.row
  have hnr := h.nr
  have HE : Hid (raceB r = false → ∀ W', G w W' → PuPost r w (.returned (.tuple #[.slice none 0 0, .int .i64 80])) W') := fun a W' b => ⟨b, .inl ⟨a, rfl⟩⟩
  have HS : Hid (raceB r = true → ∀ W' v, G w W' → W'.ownsRow w.heap.size 47 3 v (pursesL r).length (puV (pursesL r)) → PuPost r w (.returned (.tuple #[v, .int .i64 0])) W') := fun a W' v b c => ⟨b, .inr ⟨a, v, rfl, c⟩⟩
  generalize PuPost r w = PP at *
  obtain ⟨W1, hW1⟩ : ∃ W1, W1 = w.alloc (.cells #[.slice r.ra r.racers.length r.rc, .slice r.pa r.pools.length r.pc, .slice r.ta r.protests.length r.tc] 26) := ⟨_, rfl⟩
  have g0 : G w W1 := by rw [hW1]; exact (G.rf _).a _
  have b0 : Blk W1 w.heap.size 26 #[.slice r.ra r.racers.length r.rc, .slice r.pa r.pools.length r.pc, .slice r.ta r.protests.length r.tc] := by rw [hW1]; exact Blk.new _ _ _
  have hrv : r.v = #[.slice r.ra r.racers.length r.rc, .slice r.pa r.pools.length r.pc, .slice r.ta r.protests.length r.tc] := rfl
  rw [hrv] at HCK ⊢
  unfold chk8 at HCK
  go_enter Tryz.func19, Tryz.ntmps19
  go_upto_region 1 with fail
  change Code.wp _ _ _ _ (w.alloc (.cells #[.slice r.ra r.racers.length r.rc, .slice r.pa r.pools.length r.pc, .slice r.ta r.protests.length r.tc] 26))
  rw [← hW1]
  have hs1 : W1.heap.size = w.heap.size + 1 := by rw [hW1]; exact Array.size_push ..
  clear hW1 hrv
  have m0 := b0.cell 0
  have m1 := b0.cell 1
  have m2 := b0.cell 2
  have l0 := b0.lt
  cases hB : raceB r
  · have HC2 := Lib.hid (HCK.out W1 g0)
    rw [hB] at HC2
    simp only [Bool.false_eq_true, if_false] at HC2
    clear HCK h HS hrow
    go_wp2_with (go_at_call 34; refine (HC2.out).mono ?_; rintro e w2 ⟨rfl, hG2⟩)
    have HF := Lib.hid (HE.out hB _ (g0.t hG2))
    first | exact HF.out | (go_ret; exact HF.out)
  · have HC2 := Lib.hid (HCK.out W1 g0)
    rw [hB] at HC2
    simp only [if_true] at HC2
    have HSS := Lib.hid (HS.out hB)
    clear HCK HE HS
    have HR := Lib.hid hB
    have h12 := (uniq_of (race_parts hB)).1
    have hp6 := race_pools hB
    have HAT := Lib.hid h
    have HTB := Lib.hid (fun (k : Nat) (hk : k ≤ r.pools.length) => puTo_pb hB k hk)
    have H0B := Lib.hid (fun (k : Nat) (hk : k ≤ r.racers.length) => pu0_pb (racers_own hB) k hk)
    clear h hB
    go_upto_region 4 with (go_at_call 34; refine (HC2.out).mono ?_; rintro e w2 ⟨rfl, hG2⟩)
    clear m0 m1 m2 l0 HC2
    have g2 := g0.t hG2
    have b2 := b0.keep hG2
    have hs2 : w.heap.size < w2.heap.size := b2.lt
    clear b0 g0 hG2 hs1
    have hmm := @run_makeMap Tryz.prog
    go_upto_region 5 with fail
    clear hmm
    have hpm := PuM.made w2
    have b3 := b2.alloc (.map #[] 0)
    have g3 := g2.a (.map #[] 0)
    obtain ⟨m, hm⟩ : ∃ m, m = w2.heap.size := ⟨_, rfl⟩
    have hmw : w.heap.size < m := by omega
    change Code.wp _ _ _ _ (w2.alloc (.map #[] 0))
    rw [← hm] at hpm ⊢
    clear hm hs2
    generalize w2.alloc (.map #[] 0) = W3 at *
    clear b2 g2
    have m0 := b3.cell 0
    have l0 := b3.lt
    go_wp2_with fail
    clear m0 l0
    have HROW := Lib.hid hrow
    clear hrow
    go_loopw [22] (fun i wr => ∃ k : Nat, k ≤ r.racers.length ∧ i = .int .i64 k ∧ Hid (PuM wr m k (pu0 r.racers k)) ∧ Hid (Fr (fun i => i = m) W3 wr)) (fun i _ => r.racers.length - (intOf i).toNat)
    case atStart => exact ⟨0, Nat.zero_le _, rfl, hpm, Fr.rf _ _⟩
    case round =>
      clear hpm
      obtain ⟨k, hk, rfl, HM, HFR⟩ := hrel
      obtain ⟨wo, rfl⟩ : ∃ wo, wo = wr := ⟨_, rfl⟩
      have gwo : G w wo := ((G.fr (R := fun _ => False) g3).t2 HFR.out (fun i hi e => by omega)).toG (fun _ _ h => h)
      by_cases hlt : k < r.racers.length
      · have hki : (k : Int) < r.racers.length := by omega
        have hrow2 := HROW.out.below gwo
        have hob : 0 ≤ (r.racers.getD k default).owner ∧ (r.racers.getD k default).owner ≤ 99 := racers_own HR.out _ (by rw [List.getD_eq_getElem?_getD, List.getElem?_eq_getElem hlt]; exact List.getElem_mem _)
        have HPS : Hid (pu0 r.racers (k + 1) = putP (pu0 r.racers k) ⟨(r.racers.getD k default).owner, 0, 0⟩) := rfl
        obtain ⟨ra, rc, racers, pa, pc, pools, ta, tc, protests⟩ := r
        dsimp only at *
        rcases hrow2 with h | ⟨gr, ofr, rfl, hgr, hcell⟩
        · omega
        have hcl := hcell k hlt
        obtain ⟨y, hy⟩ : ∃ y, y = racers.getD k default := ⟨_, rfl⟩
        rw [← hy] at hcl hob HPS
        clear hy hcell
        obtain ⟨zbird, zowner, zrank, zday, zpa, zpc, zpools⟩ := y
        unfold Rc.v at hcl
        dsimp only at hob HPS
        have q0 : wo.cell? ⟨gr, ofr + k * 5, none⟩ = some (.int .i64 zbird) := hcl 0 (by omega)
        have q1 : wo.cell? ⟨gr, ofr + k * 5 + 1, none⟩ = some (.int .i64 zowner) := hcl 1 (by omega)
        have q2 : wo.cell? ⟨gr, ofr + k * 5 + 2, none⟩ = some (.int .i64 zrank) := hcl 2 (by omega)
        have q3 : wo.cell? ⟨gr, ofr + k * 5 + 3, none⟩ = some (.int .i64 zday) := hcl 3 (by omega)
        have q4 : wo.cell? ⟨gr, ofr + k * 5 + 4, none⟩ = some (.slice zpa zpools.length zpc) := hcl 4 (by omega)
        clear hcl
        obtain ⟨W8, hrun, hpm8, hg8⟩ := (HM.out.keep ((G.rf wo).a (.cells #[.int .i64 zbird, .int .i64 zowner, .int .i64 zrank, .int .i64 zday, .slice zpa zpools.length zpc] 60))).store ⟨zowner, 0, 0⟩ (by show -1000000000000 ≤ zowner ∧ zowner ≤ 1000000000000; omega) (by unfold maxLen; omega)
        unfold Pu.v at hrun
        dsimp only at hrun
        go_wp2_with fail
        go_roundw
        case rel => exact ⟨k + 1, by omega, by go_num, by rw [HPS.out]; exact hpm8, ((HFR.out.a _).grown hg8 (fun g e => .inl (by cases e; rfl)))⟩
        case measure => simp [intOf] <;> omega
      · obtain rfl : k = r.racers.length := by omega
        have hki : ¬ ((r.racers.length : Nat) : Int) < r.racers.length := by omega
        have bo := HFR.out.blk b3 (by omega)
        have m1 := bo.cell 1
        have l0 := bo.lt
        go_wp2_with fail
        clear m1 l0
        have HNR : Hid (r.racers.length ≤ 12) := h12
        obtain ⟨ht0, hN0⟩ : ∃ x, x = Lib.hid (show PuM wo m r.racers.length (puTo r 0) from HM.out) := ⟨_, rfl⟩
        clear hN0
        go_loopw [36] (fun i wr => ∃ k N : Nat, k ≤ r.pools.length ∧ i = .int .i64 k ∧ Hid (PuM wr m N (puTo r k)) ∧ Hid (N ≤ 12 + 12 * k) ∧ Hid (Fr (fun i => i = m) W3 wr)) (fun i _ => r.pools.length - (intOf i).toNat)
        case atStart => exact ⟨0, r.racers.length, Nat.zero_le _, rfl, ht0.out, HNR.out, HFR.out⟩
        case round =>
          clear bo HM HFR ht0 gwo
          obtain ⟨k, N, hk, rfl, HM, HN, HFR⟩ := hrel
          obtain ⟨wo, rfl⟩ : ∃ wo, wo = wr := ⟨_, rfl⟩
          have gwo : G w wo := ((G.fr (R := fun _ => False) g3).t2 HFR.out (fun i hi e => by omega)).toG (fun _ _ h => h)
          by_cases hlk : k < r.pools.length
          · have hkp : (k : Int) < r.pools.length := by omega
            have bo := HFR.out.blk b3 (by omega)
            have HOP : Hid (∀ W, G w W → Calls Tryz.prog 53 #[.agg #[.slice r.ra r.racers.length r.rc, .slice r.pa r.pools.length r.pc, .slice r.ta r.protests.length r.tc], .int .i64 (k : Nat)] W fun e w' => ∃ fa fc, e = .returned (.agg #[.int .i64 (poolAt r k).stake, .int .i64 (poolAt r k).cut, .int .i64 (poolAt r k).kind, .slice (poolAt r k).ta (poolAt r k).table.length (poolAt r k).tc, .int .i64 (poolAt r k).quota, .bool (poolAt r k).first, .slice fa (runners r k).length fc, .slice r.ta r.protests.length r.tc]) ∧ w'.ownsRow W.heap.size 60 5 (.slice fa (runners r k).length fc) (runners r k).length (rcV (runners r k)) ∧ G W w') := fun W hW => open_any r k W (HAT.out.keep hW) hlk (uniq_of (race_parts HR.out)).2 h12
            have m0 := bo.cell 0
            have m1 := bo.cell 1
            have m2 := bo.cell 2
            have l0 := bo.lt
            go_upto_region 14 with (go_at_call 53; refine (HOP.out _ gwo).mono ?_; rintro e w5 ⟨fa, fc, rfl, ho5, hG5⟩)
            clear m0 m1 m2 l0 HOP
            have ga := (G.rf w5).a (.cells #[.int .i64 (poolAt r k).stake, .int .i64 (poolAt r k).cut, .int .i64 (poolAt r k).kind, .slice (poolAt r k).ta (poolAt r k).table.length (poolAt r k).tc, .int .i64 (poolAt r k).quota, .bool (poolAt r k).first, .slice fa (runners r k).length fc, .slice r.ta r.protests.length r.tc] 85)
            have bK : Blk (w5.alloc (.cells #[.int .i64 (poolAt r k).stake, .int .i64 (poolAt r k).cut, .int .i64 (poolAt r k).kind, .slice (poolAt r k).ta (poolAt r k).table.length (poolAt r k).tc, .int .i64 (poolAt r k).quota, .bool (poolAt r k).first, .slice fa (runners r k).length fc, .slice r.ta r.protests.length r.tc] 85)) w5.heap.size 85 #[.int .i64 (poolAt r k).stake, .int .i64 (poolAt r k).cut, .int .i64 (poolAt r k).kind, .slice (poolAt r k).ta (poolAt r k).table.length (poolAt r k).tc, .int .i64 (poolAt r k).quota, .bool (poolAt r k).first, .slice fa (runners r k).length fc, .slice r.ta r.protests.length r.tc] := Blk.new _ _ _
            have g56 := hG5.t ga
            have gw6 := gwo.t g56
            have hgf : GF (fuOf r k fa fc) (w5.alloc (.cells #[.int .i64 (poolAt r k).stake, .int .i64 (poolAt r k).cut, .int .i64 (poolAt r k).kind, .slice (poolAt r k).ta (poolAt r k).table.length (poolAt r k).tc, .int .i64 (poolAt r k).quota, .bool (poolAt r k).first, .slice fa (runners r k).length fc, .slice r.ta r.protests.length r.tc] 85)) := gf_of HR.out (inB_pool hlk) (HAT.out.keep gw6) (own_G ho5 ga)
            have hor := own_G ho5 ga
            have hm6 := HM.out.keep g56
            have hf6 := HFR.out.g g56
            have hfn := own_fn hor
            clear ho5 hor HM HFR ga hG5 g56
            obtain ⟨K, hK⟩ : ∃ K, K = w5.heap.size := ⟨_, rfl⟩
            rw [← hK] at bK ⊢
            change Code.wp _ _ _ _ (w5.alloc (.cells #[.int .i64 (poolAt r k).stake, .int .i64 (poolAt r k).cut, .int .i64 (poolAt r k).kind, .slice (poolAt r k).ta (poolAt r k).table.length (poolAt r k).tc, .int .i64 (poolAt r k).quota, .bool (poolAt r k).first, .slice fa (runners r k).length fc, .slice r.ta r.protests.length r.tc] 85))
            clear hK
            generalize w5.alloc (.cells #[.int .i64 (poolAt r k).stake, .int .i64 (poolAt r k).cut, .int .i64 (poolAt r k).kind, .slice (poolAt r k).ta (poolAt r k).table.length (poolAt r k).tc, .int .i64 (poolAt r k).quota, .bool (poolAt r k).first, .slice fa (runners r k).length fc, .slice r.ta r.protests.length r.tc] 85) = w6 at *
            have HPZ : Hid (Calls Tryz.prog 52 #[.agg #[.int .i64 (poolAt r k).stake, .int .i64 (poolAt r k).cut, .int .i64 (poolAt r k).kind, .slice (poolAt r k).ta (poolAt r k).table.length (poolAt r k).tc, .int .i64 (poolAt r k).quota, .bool (poolAt r k).first, .slice fa (runners r k).length fc, .slice r.ta r.protests.length r.tc]] w6 (PzPost w6 (prizesL (fuOf r k fa fc)))) := prizes_any (fuOf r k fa fc) w6 hgf
            have HWF := Lib.hid (hgf.facts [])
            have hst := hgf.B.stake
            have hmany := hgf.B.many
            have m0 := bK.cell 0
            have m1 := bK.cell 1
            have m2 := bK.cell 2
            have m3 := bK.cell 3
            have m4 := bK.cell 4
            have m5 := bK.cell 5
            have m6 := bK.cell 6
            have m7 := bK.cell 7
            have l0 := bK.lt
            clear hgf
            unfold PzPost at HPZ
            go_wp2_with (go_at_call 52; refine (HPZ.out).mono ?_; rintro e w7 ⟨v7, rfl, ho7, hG7⟩; obtain ⟨pa7, pc7, rfl, hpr7⟩ := own_rowE Pz.vs ho7)
            clear m0 m1 m2 m3 m4 m5 m6 m7 l0 HPZ ho7
            have bK7 := bK.keep hG7
            have hm7 := hm6.keep hG7
            have gw7 := gw6.t hG7
            have HF7 := Lib.hid (hf6.g hG7)
            have hrr7 := hfn.2.below hG7
            have hKm : K ≠ m := hm7.ne bK7
            have hpl : (prizesL (fuOf r k fa fc)).length = (runners r k).length := prizesL_len _
            rw [hpl] at ⊢
            have HST : Hid (∀ j, puIn (fuOf r k none 0) (puTo r k) (j + 1) = putP (puIn (fuOf r k none 0) (puTo r k) j) (addP (atP (puIn (fuOf r k none 0) (puTo r k) j) ((runners r k).getD j default).owner) (poolAt r k).stake (((prizesL (fuOf r k fa fc)).getD j default).won + ((prizesL (fuOf r k fa fc)).getD j default).back))) := fun j => rfl
            have HEN : Hid (puTo r (k + 1) = puIn (fuOf r k none 0) (puTo r k) (runners r k).length) := rfl
            have HPBJ := Lib.hid (fun (j : Nat) (hj : j ≤ (runners r k).length) => puIn_pb (f := fuOf r k none 0) (HTB.out k (by omega)).1 (fu_facts HR.out hlk none 0 []) (fu_bounds HR.out (inB_pool hlk) none 0) j hj)
            have HPBD := Lib.hid (fun (j : Nat) (hj : j < (runners r k).length) => prizesL_bd HWF.out j hj)
            have HS0 : Hid (PuM w7 m N (puIn (fuOf r k none 0) (puTo r k) 0)) := hm7
            have hstk : 0 ≤ (poolAt r k).stake ∧ (poolAt r k).stake ≤ 100000 := hst
            have hmany2 : (runners r k).length ≤ 12 := hmany
            have HOWN : Hid (∀ j, j < (runners r k).length → 0 ≤ ((runners r k).getD j default).owner ∧ ((runners r k).getD j default).owner ≤ 99) := fun j hj => racers_own HR.out _ (runners_sub (p := (k : Int)) (by rw [List.getD_eq_getElem?_getD, List.getElem?_eq_getElem hj]; exact List.getElem_mem _)).1
            obtain ⟨PI, hPI⟩ : ∃ PI : Nat → List Pu, PI = puIn (fuOf r k none 0) (puTo r k) := ⟨_, rfl⟩
            rw [← hPI] at HST HEN HPBJ HS0
            have HPZR := Lib.hid hpr7
            have HRR := Lib.hid hrr7
            clear hPI hpr7 hrr7 hfn hm6 hf6 bK hG7 gw6 hst hmany HWF
            obtain ⟨PL, hPL⟩ : ∃ PL, PL = prizesL (fuOf r k fa fc) := ⟨_, rfl⟩
            rw [← hPL] at HST HPBD HPZR hpl
            obtain ⟨RS, hRS⟩ : ∃ RS, RS = runners r k := ⟨_, rfl⟩
            rw [← hRS] at HST HPBD HRR hpl HEN HPBJ hmany2 HOWN bK7 ⊢
            clear hPL hRS
            go_loopw [45] (fun i wr => ∃ j N2 : Nat, j ≤ RS.length ∧ i = .int .i64 j ∧ Hid (PuM wr m N2 (PI j)) ∧ Hid (N2 ≤ 12 + 12 * k + j) ∧ Hid (Fr (fun i => i = m) w7 wr)) (fun i _ => RS.length - (intOf i).toNat)
            case atStart => exact ⟨0, N, Nat.zero_le _, rfl, HS0.out, HN.out, Fr.rf _ _⟩
            case round =>
              clear HS0
              obtain ⟨j, N2, hj, rfl, HM, HN2, HFR⟩ := hrel
              obtain ⟨wi, rfl⟩ : ∃ wi, wi = wr := ⟨_, rfl⟩
              by_cases hjl : j < RS.length
              · have hji : (j : Int) < RS.length := by omega
                have hjp : j < PL.length := by omega
                rcases HPZR.out with h | ⟨gp, op, rfl, hgp, hpcell⟩
                · omega
                rcases HRR.out with h | ⟨gr, ofr, rfl, hgr, hrcell⟩
                · omega
                have hpc := hpcell j hjp
                have hrc := hrcell j hjl
                have hpb := HPBJ.out j hj
                have hpd := HPBD.out j hjl
                have hob := HOWN.out j hjl
                have hst2 := HST.out j
                obtain ⟨y, hy⟩ : ∃ y, y = RS.getD j default := ⟨_, rfl⟩
                rw [← hy] at hrc hob hst2
                clear hy hrcell
                obtain ⟨z, hz⟩ : ∃ z, z = PL.getD j default := ⟨_, rfl⟩
                rw [← hz] at hpc hpd hst2
                clear hz hpcell
                obtain ⟨zbird, zowner, zrank, zday, zpa, zpc, zpools⟩ := y
                obtain ⟨pb, pw, pk⟩ := z
                unfold Rc.v at hrc
                unfold Pz.v at hpc
                dsimp only at hob hst2 hpd
                have hneR : gr ≠ m := hm7.ne_cell (hrc 1 (by omega))
                have hneP : gp ≠ m := hm7.ne_cell (hpc 1 (by omega))
                have q1 : wi.cell? ⟨gr, ofr + j * 5 + 1, none⟩ = some (.int .i64 zowner) := fr_cell HFR.out hgr hneR (hrc 1 (by omega))
                have p0 : wi.cell? ⟨gp, op + j * 3, none⟩ = some (.int .i64 pb) := fr_cell HFR.out hgp hneP (hpc 0 (by omega))
                have p1 : wi.cell? ⟨gp, op + j * 3 + 1, none⟩ = some (.int .i64 pw) := fr_cell HFR.out hgp hneP (hpc 1 (by omega))
                have p2 : wi.cell? ⟨gp, op + j * 3 + 2, none⟩ = some (.int .i64 pk) := fr_cell HFR.out hgp hneP (hpc 2 (by omega))
                have lgr : gr < wi.heap.size := Nat.lt_of_lt_of_le hgr HFR.out.size
                have lgp : gp < wi.heap.size := Nat.lt_of_lt_of_le hgp HFR.out.size
                have bKi := HFR.out.blk bK7 hKm
                have m0 := bKi.cell 0
                have m6 := bKi.cell 6
                have l0 := bKi.lt
                have hAt := hpb.1.at zowner
                have HST2 := Lib.hid hst2
                have hlk2 := (HM.out.keep ((G.rf wi).a (.cells #[.int .i64 pb, .int .i64 pw, .int .i64 pk] 40))).at (x := zowner) (by omega) (by go_simp)
                obtain ⟨X, hX⟩ : ∃ X, X = atP (PI j) zowner := ⟨_, rfl⟩
                rw [← hX] at hAt hlk2 HST2
                clear hst2 hX hrc hpc
                obtain ⟨xo, xs, xp⟩ := X
                unfold Pu.v at hlk2
                unfold addP at HST2
                dsimp only at hAt hlk2 HST2
                have hk12 : 12 * (k : Int) + j ≤ 84 := by omega
                have x1 : IntKind.i64.wrap (xs + (poolAt r k).stake) = xs + (poolAt r k).stake := IntWalk.i64_in _ (by omega)
                have x2 : IntKind.i64.wrap (pw + pk) = pw + pk := IntWalk.i64_in _ (by omega)
                have x3 : IntKind.i64.wrap (xp + (pw + pk)) = xp + (pw + pk) := IntWalk.i64_in _ (by omega)
                go_upto_region 18 with fail
                have frA : Fr (fun i => i = m) w7 ((wi.alloc (.cells #[.int .i64 pb, .int .i64 pw, .int .i64 pk] 40)).alloc (.cells #[.int .i64 xo, .int .i64 xs, .int .i64 xp] 47)) := (HFR.out.a _).a _
                have hmA := (HM.out.keep ((G.rf wi).a (.cells #[.int .i64 pb, .int .i64 pw, .int .i64 pk] 40))).keep ((G.rf _).a (.cells #[.int .i64 xo, .int .i64 xs, .int .i64 xp] 47))
                have b40 : Blk ((wi.alloc (.cells #[.int .i64 pb, .int .i64 pw, .int .i64 pk] 40)).alloc (.cells #[.int .i64 xo, .int .i64 xs, .int .i64 xp] 47)) wi.heap.size 40 #[.int .i64 pb, .int .i64 pw, .int .i64 pk] := (Blk.new _ _ _).alloc _
                have b47 : Blk ((wi.alloc (.cells #[.int .i64 pb, .int .i64 pw, .int .i64 pk] 40)).alloc (.cells #[.int .i64 xo, .int .i64 xs, .int .i64 xp] 47)) (wi.heap.size + 1) 47 #[.int .i64 xo, .int .i64 xs, .int .i64 xp] := Blk.new1 _ _ _ _
                have bKA := (bKi.alloc (.cells #[.int .i64 pb, .int .i64 pw, .int .i64 pk] 40)).alloc (.cells #[.int .i64 xo, .int .i64 xs, .int .i64 xp] 47)
                have hgi : w7.heap.size ≤ wi.heap.size := HFR.out.size
                clear q1 p0 p1 p2 lgr lgp m0 m6 l0 hlk2 HM HFR bKi
                obtain ⟨gi, hgi2⟩ : ∃ gi, gi = wi.heap.size := ⟨_, rfl⟩
                change Code.wp _ _ _ _ ((wi.alloc (.cells #[.int .i64 pb, .int .i64 pw, .int .i64 pk] 40)).alloc (.cells #[.int .i64 xo, .int .i64 xs, .int .i64 xp] 47))
                rw [← hgi2] at b40 b47 hgi ⊢
                clear hgi2
                generalize (wi.alloc (.cells #[.int .i64 pb, .int .i64 pw, .int .i64 pk] 40)).alloc (.cells #[.int .i64 xo, .int .i64 xs, .int .i64 xp] 47) = wA at *
                have m0 := bKA.cell 0
                have lK := bKA.lt
                have c1 := b40.cell 1
                have c2 := b40.cell 2
                have l4 := b40.lt
                have d0 := b47.cell 0
                have d1 := b47.cell 1
                have d2 := b47.cell 2
                have z1 := b47.frozen 1
                have z2 := b47.frozen 2
                have l7 := b47.lt
                go_upto_region 20 with fail
                have bE := (b47.set_ 1 (.int .i64 (xs + (poolAt r k).stake))).set_ 2 (.int .i64 (xp + (pw + pk)))
                simp only [List.setIfInBounds_toArray, List.set_cons_zero, List.set_cons_succ] at bE
                have hne7 : some m ≠ some (gi + 1) := fun e => by
                  have e2 : m = gi + 1 := by injection e
                  exact hmA.ne b47 e2.symm
                have hmE := (hmA.grown (grownBy_set wA ⟨gi + 1, 1, none⟩ (.int .i64 (xs + (poolAt r k).stake))) hne7).grown (grownBy_set _ ⟨gi + 1, 2, none⟩ (.int .i64 (xp + (pw + pk)))) hne7
                have frE : Fr (fun i => i = m) w7 ((wA.setCell ⟨gi + 1, 1, none⟩ (.int .i64 (xs + (poolAt r k).stake))).setCell ⟨gi + 1, 2, none⟩ (.int .i64 (xp + (pw + pk)))) := (frA.s (p := ⟨gi + 1, 1, none⟩) (.inr (show w7.heap.size ≤ gi + 1 by omega)) _).s (p := ⟨gi + 1, 2, none⟩) (.inr (show w7.heap.size ≤ gi + 1 by omega)) _
                clear m0 lK c1 c2 l4 d0 d1 d2 z1 z2 l7 hmA frA b40 b47 bKA
                generalize (wA.setCell ⟨gi + 1, 1, none⟩ (.int .i64 (xs + (poolAt r k).stake))).setCell ⟨gi + 1, 2, none⟩ (.int .i64 (xp + (pw + pk))) = wE at *
                obtain ⟨W8, hrun, hpm8, hg8⟩ := hmE.store ⟨xo, xs + (poolAt r k).stake, xp + (pw + pk)⟩ (by show -1000000000000 ≤ xo ∧ xo ≤ 1000000000000; omega) (by have := HN2.out; unfold maxLen; omega)
                unfold Pu.v at hrun
                dsimp only at hrun
                have d0 := bE.cell 0
                have d1 := bE.cell 1
                have d2 := bE.cell 2
                have l7 := bE.lt
                go_wp2_with fail
                go_roundw
                case rel => exact ⟨j + 1, N2 + 1, by omega, by go_num, by rw [HST2.out]; exact hpm8, by show N2 + 1 ≤ _; have := HN2.out; omega, frE.grown hg8 (fun g e => .inl (by cases e; rfl))⟩
                case measure => simp [intOf] <;> omega
              · obtain rfl : j = RS.length := by omega
                have hji : ¬ ((RS.length : Nat) : Int) < RS.length := by omega
                go_wp2_with fail
                go_roundw
                case rel => exact ⟨k + 1, N2, by omega, by go_num, by rw [HEN.out]; exact HM.out, by show N2 ≤ _; have := HN2.out; omega, HF7.out.t2 HFR.out (fun i hi e => e)⟩
                case measure => simp [intOf] <;> omega
          · obtain rfl : k = r.pools.length := by omega
            have hkp : ¬ ((r.pools.length : Nat) : Int) < r.pools.length := by omega
            have htb := HTB.out r.pools.length (Nat.le_refl _)
            have HPV := Lib.hid (pvalues_any m)
            have bV : Blk (wo.alloc (.cells #[.map (some m)] 93)) wo.heap.size 93 #[.map (some m)] := Blk.new _ _ _
            have HSO := Lib.hid (psorted_any wo.heap.size m N (puTo r r.pools.length) htb.1.uniq (by omega) (wo.alloc (.cells #[.map (some m)] 93)) bV (HM.out.keep ((G.rf _).a _)))
            clear bV
            go_wp2_with (first | (go_at_call 55; refine (HPV.out _).mono ?_; rintro e w7 ⟨rfl, rfl⟩) | (go_at_call 54; refine (HSO.out).mono ?_; rintro e w8 ⟨v8, rfl, ho8, hG8⟩))
            have gz : G w w8 := (gwo.a _).t hG8
            have hln : (pursesL r).length = (puTo r r.pools.length).length := srtP_len _
            have HF := Lib.hid (HSS.out w8 v8 gz (own_weaken (by rw [hln]; exact ho8) (gwo.a (.cells #[.map (some m)] 93)).size))
            first | exact HF.out | (go_ret; exact HF.out)
end Go.Proofs.YtnkmcoljijmgpaaGreat

set_option linter.unusedSimpArgs false
set_option linter.unusedVariables false
namespace Go.Proofs.YtnkmcoljijmgpaaGreat
open Go.RowKit Go.Shelf Go.Sort Go.Maps
attribute [local go_sem] Oper.semAt_some
/-- the chapter's race, laid from block B on -/
def exR (B : Nat) : Ra := ⟨some ⟨B + 1 + 1 + 1 + 1 + 1 + 1, 0, none⟩, 5, [⟨11, 1, 1, 1, some ⟨B + 1, 0, none⟩, 3, [0, 1, 2]⟩, ⟨12, 2, 2, 1, some ⟨B + 1 + 1, 0, none⟩, 2, [0, 1]⟩, ⟨13, 1, 2, 1, some ⟨B + 1 + 1 + 1, 0, none⟩, 3, [0, 1, 2]⟩, ⟨14, 3, 1, 2, some ⟨B + 1 + 1 + 1 + 1, 0, none⟩, 2, [0, 1]⟩, ⟨15, 2, 0, 0, some ⟨B + 1 + 1 + 1 + 1 + 1, 0, none⟩, 2, [0, 2]⟩], some ⟨B + 1 + 1 + 1 + 1 + 1 + 1 + 1 + 1, 0, none⟩, 3, [⟨1000, 100, 1, some ⟨B + 1 + 1 + 1 + 1 + 1 + 1 + 1, 0, none⟩, 3, [500, 300, 100], 0, false⟩, ⟨333, 0, 2, none, 0, [], 2, false⟩, ⟨500, 0, 3, none, 0, [], 0, true⟩], some ⟨B + 1 + 1 + 1 + 1 + 1 + 1 + 1 + 1 + 1, 0, none⟩, 2, [11, 13]⟩
structure ExW (B : Nat) (W : World) : Prop where
  b0 : Blk W (B) 26 #[.slice (some ⟨B + 1 + 1 + 1 + 1 + 1 + 1, 0, none⟩) 5 5, .slice (some ⟨B + 1 + 1 + 1 + 1 + 1 + 1 + 1 + 1, 0, none⟩) 3 3, .slice (some ⟨B + 1 + 1 + 1 + 1 + 1 + 1 + 1 + 1 + 1, 0, none⟩) 2 2]
  b1 : Blk W (B + 1) 3 #[.int .i64 0, .int .i64 1, .int .i64 2]
  b2 : Blk W (B + 1 + 1) 3 #[.int .i64 0, .int .i64 1]
  b3 : Blk W (B + 1 + 1 + 1) 3 #[.int .i64 0, .int .i64 1, .int .i64 2]
  b4 : Blk W (B + 1 + 1 + 1 + 1) 3 #[.int .i64 0, .int .i64 1]
  b5 : Blk W (B + 1 + 1 + 1 + 1 + 1) 3 #[.int .i64 0, .int .i64 2]
  b6 : Blk W (B + 1 + 1 + 1 + 1 + 1 + 1) 60 #[.int .i64 11, .int .i64 1, .int .i64 1, .int .i64 1, .slice (some ⟨B + 1, 0, none⟩) 3 3, .int .i64 12, .int .i64 2, .int .i64 2, .int .i64 1, .slice (some ⟨B + 1 + 1, 0, none⟩) 2 2, .int .i64 13, .int .i64 1, .int .i64 2, .int .i64 1, .slice (some ⟨B + 1 + 1 + 1, 0, none⟩) 3 3, .int .i64 14, .int .i64 3, .int .i64 1, .int .i64 2, .slice (some ⟨B + 1 + 1 + 1 + 1, 0, none⟩) 2 2, .int .i64 15, .int .i64 2, .int .i64 0, .int .i64 0, .slice (some ⟨B + 1 + 1 + 1 + 1 + 1, 0, none⟩) 2 2]
  b7 : Blk W (B + 1 + 1 + 1 + 1 + 1 + 1 + 1) 3 #[.int .i64 500, .int .i64 300, .int .i64 100]
  b8 : Blk W (B + 1 + 1 + 1 + 1 + 1 + 1 + 1 + 1) 42 #[.int .i64 1000, .int .i64 100, .int .i64 1, .slice (some ⟨B + 1 + 1 + 1 + 1 + 1 + 1 + 1, 0, none⟩) 3 3, .int .i64 0, .bool false, .int .i64 333, .int .i64 0, .int .i64 2, .slice none 0 0, .int .i64 2, .bool false, .int .i64 500, .int .i64 0, .int .i64 3, .slice none 0 0, .int .i64 0, .bool true]
  b9 : Blk W (B + 1 + 1 + 1 + 1 + 1 + 1 + 1 + 1 + 1) 3 #[.int .i64 11, .int .i64 13]
theorem ints_blk {W : World} {b : Nat} {l : List Int} {cs : Array Value} (hb : Blk W b 3 cs) (h : ∀ k, k < l.length → cs[0 + k]? = some (.int .i64 (l.getD k 0))) : IntsAt W (some ⟨b, 0, none⟩) l := .inr ⟨b, 0, rfl, hb.lt, fun k hk => (hb.cell _).trans (h k hk)⟩
theorem lt2 {P : Nat → Prop} (h0 : P 0) (h1 : P 1) : ∀ k, k < 2 → P k
  | 0, _ => h0
  | 1, _ => h1
theorem lt3 {P : Nat → Prop} (h0 : P 0) (h1 : P 1) (h2 : P 2) : ∀ k, k < 3 → P k
  | 0, _ => h0
  | 1, _ => h1
  | 2, _ => h2
theorem lt5 {P : Nat → Prop} (h0 : P 0) (h1 : P 1) (h2 : P 2) (h3 : P 3) (h4 : P 4) : ∀ k, k < 5 → P k
  | 0, _ => h0
  | 1, _ => h1
  | 2, _ => h2
  | 3, _ => h3
  | 4, _ => h4
theorem lt6 {P : Nat → Prop} (h0 : P 0) (h1 : P 1) (h2 : P 2) (h3 : P 3) (h4 : P 4) (h5 : P 5) : ∀ k, k < 6 → P k
  | 0, _ => h0
  | 1, _ => h1
  | 2, _ => h2
  | 3, _ => h3
  | 4, _ => h4
  | 5, _ => h5
set_option maxRecDepth 100000 in
theorem ExW.at {B : Nat} {W : World} (h : ExW B W) : (exR B).At W where
  rs := ⟨.inr ⟨_, 0, rfl, h.b6.lt, fun i hi r hr => (h.b6.cell _).trans (lt5 (P := fun i => ∀ r, r < 5 → (#[.int .i64 11, .int .i64 1, .int .i64 1, .int .i64 1, .slice (some ⟨B + 1, 0, none⟩) 3 3, .int .i64 12, .int .i64 2, .int .i64 2, .int .i64 1, .slice (some ⟨B + 1 + 1, 0, none⟩) 2 2, .int .i64 13, .int .i64 1, .int .i64 2, .int .i64 1, .slice (some ⟨B + 1 + 1 + 1, 0, none⟩) 3 3, .int .i64 14, .int .i64 3, .int .i64 1, .int .i64 2, .slice (some ⟨B + 1 + 1 + 1 + 1, 0, none⟩) 2 2, .int .i64 15, .int .i64 2, .int .i64 0, .int .i64 0, .slice (some ⟨B + 1 + 1 + 1 + 1 + 1, 0, none⟩) 2 2] : Array Value)[0 + i * 5 + r]? = ((exR B).racers.getD i default).v[r]?) (lt5 rfl rfl rfl rfl rfl) (lt5 rfl rfl rfl rfl rfl) (lt5 rfl rfl rfl rfl rfl) (lt5 rfl rfl rfl rfl rfl) (lt5 rfl rfl rfl rfl rfl) i hi r hr)⟩, lt5 (P := fun i => IntsAt W ((exR B).racers.getD i default).pa ((exR B).racers.getD i default).pools) (ints_blk h.b1 (lt3 rfl rfl rfl)) (ints_blk h.b2 (lt2 rfl rfl)) (ints_blk h.b3 (lt3 rfl rfl rfl)) (ints_blk h.b4 (lt2 rfl rfl)) (ints_blk h.b5 (lt2 rfl rfl))⟩
  ps := ⟨.inr ⟨_, 0, rfl, h.b8.lt, fun i hi r hr => (h.b8.cell _).trans (lt3 (P := fun i => ∀ r, r < 6 → (#[.int .i64 1000, .int .i64 100, .int .i64 1, .slice (some ⟨B + 1 + 1 + 1 + 1 + 1 + 1 + 1, 0, none⟩) 3 3, .int .i64 0, .bool false, .int .i64 333, .int .i64 0, .int .i64 2, .slice none 0 0, .int .i64 2, .bool false, .int .i64 500, .int .i64 0, .int .i64 3, .slice none 0 0, .int .i64 0, .bool true] : Array Value)[0 + i * 6 + r]? = ((exR B).pools.getD i default).v[r]?) (lt6 rfl rfl rfl rfl rfl rfl) (lt6 rfl rfl rfl rfl rfl rfl) (lt6 rfl rfl rfl rfl rfl rfl) i hi r hr)⟩, lt3 (P := fun i => IntsAt W ((exR B).pools.getD i default).ta ((exR B).pools.getD i default).table) (ints_blk h.b7 (lt3 rfl rfl rfl)) (.inl rfl) (.inl rfl)⟩
  ts := ints_blk h.b9 (lt2 rfl rfl)
  nr := by show 5 ≤ 1000; decide
  cr := by show 5 ≤ 5; decide
  ct := by show 2 ≤ 2; decide
  np := by show 3 ≤ 1000; decide
  nt := by show 2 ≤ 1000; decide
  nq := lt5 (P := fun i => ((exR B).racers.getD i default).pools.length ≤ 1000) (by show 3 ≤ 1000; decide) (by show 2 ≤ 1000; decide) (by show 3 ≤ 1000; decide) (by show 2 ≤ 1000; decide) (by show 2 ≤ 1000; decide)
  nb := lt3 (P := fun i => ((exR B).pools.getD i default).table.length ≤ 1000) (by show 3 ≤ 1000; decide) (by show 0 ≤ 1000; decide) (by show 0 ≤ 1000; decide)
theorem res45 (tmps : Array Value) (w : World) (g : Nat) (a0 a1 a2 : Option Addr) (l0 l1 l2 k0 k1 k2 : Nat) (h : tmps.getD 0 undef = .pointer (some ⟨g, 0, none⟩)) (hB : Blk w g 26 #[.slice a0 l0 k0, .slice a1 l1 k1, .slice a2 l2 k2]) :
    (results Tryz.f45 tmps).run Tryz.prog w = .ok (.agg #[.slice a0 l0 k0, .slice a1 l1 k1, .slice a2 l2 k2]) w := by
  have c0 := hB.cell 0
  have c1 := hB.cell 1
  have c2 := hB.cell 2
  clear hB
  have hr : Tryz.f45.results = #[.cell 0 26] := rfl
  have h' : tmps[0]?.getD undef = .pointer (some ⟨g, 0, none⟩) := by simpa using h
  simp only [results, hr]
  go_simp
set_option maxRecDepth 100000 in
set_option maxHeartbeats 4000000 in
theorem Example_any (w : World) : Calls Tryz.prog 45 #[] w fun e w' => e = .returned (.agg (exR w.heap.size).v) ∧ (exR w.heap.size).At w' ∧ G w w' := by
  obtain ⟨W0, hW0⟩ : ∃ W0, W0 = w.alloc (.cells #[.slice (some ⟨w.heap.size + 1 + 1 + 1 + 1 + 1 + 1, 0, none⟩) 5 5, .slice (some ⟨w.heap.size + 1 + 1 + 1 + 1 + 1 + 1 + 1 + 1, 0, none⟩) 3 3, .slice (some ⟨w.heap.size + 1 + 1 + 1 + 1 + 1 + 1 + 1 + 1 + 1, 0, none⟩) 2 2] 26) := ⟨_, rfl⟩
  have hs0 : W0.heap.size = w.heap.size + 1 := by rw [hW0, World.size_alloc]
  obtain ⟨W1, hW1⟩ : ∃ W1, W1 = W0.alloc (.cells #[.int .i64 0, .int .i64 1, .int .i64 2] 3) := ⟨_, rfl⟩
  have hs1 : W1.heap.size = w.heap.size + 1 + 1 := by rw [hW1, World.size_alloc, hs0]
  obtain ⟨W2, hW2⟩ : ∃ W2, W2 = W1.alloc (.cells #[.int .i64 0, .int .i64 1] 3) := ⟨_, rfl⟩
  have hs2 : W2.heap.size = w.heap.size + 1 + 1 + 1 := by rw [hW2, World.size_alloc, hs1]
  obtain ⟨W3, hW3⟩ : ∃ W3, W3 = W2.alloc (.cells #[.int .i64 0, .int .i64 1, .int .i64 2] 3) := ⟨_, rfl⟩
  have hs3 : W3.heap.size = w.heap.size + 1 + 1 + 1 + 1 := by rw [hW3, World.size_alloc, hs2]
  obtain ⟨W4, hW4⟩ : ∃ W4, W4 = W3.alloc (.cells #[.int .i64 0, .int .i64 1] 3) := ⟨_, rfl⟩
  have hs4 : W4.heap.size = w.heap.size + 1 + 1 + 1 + 1 + 1 := by rw [hW4, World.size_alloc, hs3]
  obtain ⟨W5, hW5⟩ : ∃ W5, W5 = W4.alloc (.cells #[.int .i64 0, .int .i64 2] 3) := ⟨_, rfl⟩
  have hs5 : W5.heap.size = w.heap.size + 1 + 1 + 1 + 1 + 1 + 1 := by rw [hW5, World.size_alloc, hs4]
  obtain ⟨W6, hW6⟩ : ∃ W6, W6 = W5.alloc (.cells #[.int .i64 11, .int .i64 1, .int .i64 1, .int .i64 1, .slice (some ⟨w.heap.size + 1, 0, none⟩) 3 3, .int .i64 12, .int .i64 2, .int .i64 2, .int .i64 1, .slice (some ⟨w.heap.size + 1 + 1, 0, none⟩) 2 2, .int .i64 13, .int .i64 1, .int .i64 2, .int .i64 1, .slice (some ⟨w.heap.size + 1 + 1 + 1, 0, none⟩) 3 3, .int .i64 14, .int .i64 3, .int .i64 1, .int .i64 2, .slice (some ⟨w.heap.size + 1 + 1 + 1 + 1, 0, none⟩) 2 2, .int .i64 15, .int .i64 2, .int .i64 0, .int .i64 0, .slice (some ⟨w.heap.size + 1 + 1 + 1 + 1 + 1, 0, none⟩) 2 2] 60) := ⟨_, rfl⟩
  have hs6 : W6.heap.size = w.heap.size + 1 + 1 + 1 + 1 + 1 + 1 + 1 := by rw [hW6, World.size_alloc, hs5]
  obtain ⟨W7, hW7⟩ : ∃ W7, W7 = W6.alloc (.cells #[.int .i64 500, .int .i64 300, .int .i64 100] 3) := ⟨_, rfl⟩
  have hs7 : W7.heap.size = w.heap.size + 1 + 1 + 1 + 1 + 1 + 1 + 1 + 1 := by rw [hW7, World.size_alloc, hs6]
  obtain ⟨W8, hW8⟩ : ∃ W8, W8 = W7.alloc (.cells #[.int .i64 1000, .int .i64 100, .int .i64 1, .slice (some ⟨w.heap.size + 1 + 1 + 1 + 1 + 1 + 1 + 1, 0, none⟩) 3 3, .int .i64 0, .bool false, .int .i64 333, .int .i64 0, .int .i64 2, .slice none 0 0, .int .i64 2, .bool false, .int .i64 500, .int .i64 0, .int .i64 3, .slice none 0 0, .int .i64 0, .bool true] 42) := ⟨_, rfl⟩
  have hs8 : W8.heap.size = w.heap.size + 1 + 1 + 1 + 1 + 1 + 1 + 1 + 1 + 1 := by rw [hW8, World.size_alloc, hs7]
  obtain ⟨W9, hW9⟩ : ∃ W9, W9 = W8.alloc (.cells #[.int .i64 11, .int .i64 13] 3) := ⟨_, rfl⟩
  have hs9 : W9.heap.size = w.heap.size + 1 + 1 + 1 + 1 + 1 + 1 + 1 + 1 + 1 + 1 := by rw [hW9, World.size_alloc, hs8]
  have n0 : Blk W0 (w.heap.size) 26 #[.slice (some ⟨w.heap.size + 1 + 1 + 1 + 1 + 1 + 1, 0, none⟩) 5 5, .slice (some ⟨w.heap.size + 1 + 1 + 1 + 1 + 1 + 1 + 1 + 1, 0, none⟩) 3 3, .slice (some ⟨w.heap.size + 1 + 1 + 1 + 1 + 1 + 1 + 1 + 1 + 1, 0, none⟩) 2 2] := by rw [hW0]; have := Blk.new w 26 #[.slice (some ⟨w.heap.size + 1 + 1 + 1 + 1 + 1 + 1, 0, none⟩) 5 5, .slice (some ⟨w.heap.size + 1 + 1 + 1 + 1 + 1 + 1 + 1 + 1, 0, none⟩) 3 3, .slice (some ⟨w.heap.size + 1 + 1 + 1 + 1 + 1 + 1 + 1 + 1 + 1, 0, none⟩) 2 2]; exact this
  have n1 : Blk W1 (w.heap.size + 1) 3 #[.int .i64 0, .int .i64 1, .int .i64 2] := by rw [hW1]; have := Blk.new W0 3 #[.int .i64 0, .int .i64 1, .int .i64 2]; rw [hs0] at this; exact this
  have n2 : Blk W2 (w.heap.size + 1 + 1) 3 #[.int .i64 0, .int .i64 1] := by rw [hW2]; have := Blk.new W1 3 #[.int .i64 0, .int .i64 1]; rw [hs1] at this; exact this
  have n3 : Blk W3 (w.heap.size + 1 + 1 + 1) 3 #[.int .i64 0, .int .i64 1, .int .i64 2] := by rw [hW3]; have := Blk.new W2 3 #[.int .i64 0, .int .i64 1, .int .i64 2]; rw [hs2] at this; exact this
  have n4 : Blk W4 (w.heap.size + 1 + 1 + 1 + 1) 3 #[.int .i64 0, .int .i64 1] := by rw [hW4]; have := Blk.new W3 3 #[.int .i64 0, .int .i64 1]; rw [hs3] at this; exact this
  have n5 : Blk W5 (w.heap.size + 1 + 1 + 1 + 1 + 1) 3 #[.int .i64 0, .int .i64 2] := by rw [hW5]; have := Blk.new W4 3 #[.int .i64 0, .int .i64 2]; rw [hs4] at this; exact this
  have n6 : Blk W6 (w.heap.size + 1 + 1 + 1 + 1 + 1 + 1) 60 #[.int .i64 11, .int .i64 1, .int .i64 1, .int .i64 1, .slice (some ⟨w.heap.size + 1, 0, none⟩) 3 3, .int .i64 12, .int .i64 2, .int .i64 2, .int .i64 1, .slice (some ⟨w.heap.size + 1 + 1, 0, none⟩) 2 2, .int .i64 13, .int .i64 1, .int .i64 2, .int .i64 1, .slice (some ⟨w.heap.size + 1 + 1 + 1, 0, none⟩) 3 3, .int .i64 14, .int .i64 3, .int .i64 1, .int .i64 2, .slice (some ⟨w.heap.size + 1 + 1 + 1 + 1, 0, none⟩) 2 2, .int .i64 15, .int .i64 2, .int .i64 0, .int .i64 0, .slice (some ⟨w.heap.size + 1 + 1 + 1 + 1 + 1, 0, none⟩) 2 2] := by rw [hW6]; have := Blk.new W5 60 #[.int .i64 11, .int .i64 1, .int .i64 1, .int .i64 1, .slice (some ⟨w.heap.size + 1, 0, none⟩) 3 3, .int .i64 12, .int .i64 2, .int .i64 2, .int .i64 1, .slice (some ⟨w.heap.size + 1 + 1, 0, none⟩) 2 2, .int .i64 13, .int .i64 1, .int .i64 2, .int .i64 1, .slice (some ⟨w.heap.size + 1 + 1 + 1, 0, none⟩) 3 3, .int .i64 14, .int .i64 3, .int .i64 1, .int .i64 2, .slice (some ⟨w.heap.size + 1 + 1 + 1 + 1, 0, none⟩) 2 2, .int .i64 15, .int .i64 2, .int .i64 0, .int .i64 0, .slice (some ⟨w.heap.size + 1 + 1 + 1 + 1 + 1, 0, none⟩) 2 2]; rw [hs5] at this; exact this
  have n7 : Blk W7 (w.heap.size + 1 + 1 + 1 + 1 + 1 + 1 + 1) 3 #[.int .i64 500, .int .i64 300, .int .i64 100] := by rw [hW7]; have := Blk.new W6 3 #[.int .i64 500, .int .i64 300, .int .i64 100]; rw [hs6] at this; exact this
  have n8 : Blk W8 (w.heap.size + 1 + 1 + 1 + 1 + 1 + 1 + 1 + 1) 42 #[.int .i64 1000, .int .i64 100, .int .i64 1, .slice (some ⟨w.heap.size + 1 + 1 + 1 + 1 + 1 + 1 + 1, 0, none⟩) 3 3, .int .i64 0, .bool false, .int .i64 333, .int .i64 0, .int .i64 2, .slice none 0 0, .int .i64 2, .bool false, .int .i64 500, .int .i64 0, .int .i64 3, .slice none 0 0, .int .i64 0, .bool true] := by rw [hW8]; have := Blk.new W7 42 #[.int .i64 1000, .int .i64 100, .int .i64 1, .slice (some ⟨w.heap.size + 1 + 1 + 1 + 1 + 1 + 1 + 1, 0, none⟩) 3 3, .int .i64 0, .bool false, .int .i64 333, .int .i64 0, .int .i64 2, .slice none 0 0, .int .i64 2, .bool false, .int .i64 500, .int .i64 0, .int .i64 3, .slice none 0 0, .int .i64 0, .bool true]; rw [hs7] at this; exact this
  have n9 : Blk W9 (w.heap.size + 1 + 1 + 1 + 1 + 1 + 1 + 1 + 1 + 1) 3 #[.int .i64 11, .int .i64 13] := by rw [hW9]; have := Blk.new W8 3 #[.int .i64 11, .int .i64 13]; rw [hs8] at this; exact this
  have g1 : G W0 W1 := by rw [hW1]; exact (G.rf _).a _
  have g2 : G W1 W2 := by rw [hW2]; exact (G.rf _).a _
  have g3 : G W2 W3 := by rw [hW3]; exact (G.rf _).a _
  have g4 : G W3 W4 := by rw [hW4]; exact (G.rf _).a _
  have g5 : G W4 W5 := by rw [hW5]; exact (G.rf _).a _
  have g6 : G W5 W6 := by rw [hW6]; exact (G.rf _).a _
  have g7 : G W6 W7 := by rw [hW7]; exact (G.rf _).a _
  have g8 : G W7 W8 := by rw [hW8]; exact (G.rf _).a _
  have g9 : G W8 W9 := by rw [hW9]; exact (G.rf _).a _
  have hx : ExW w.heap.size W9 := ⟨(((((((((n0.keep g1).keep g2).keep g3).keep g4).keep g5).keep g6).keep g7).keep g8).keep g9), ((((((((n1.keep g2).keep g3).keep g4).keep g5).keep g6).keep g7).keep g8).keep g9), (((((((n2.keep g3).keep g4).keep g5).keep g6).keep g7).keep g8).keep g9), ((((((n3.keep g4).keep g5).keep g6).keep g7).keep g8).keep g9), (((((n4.keep g5).keep g6).keep g7).keep g8).keep g9), ((((n5.keep g6).keep g7).keep g8).keep g9), (((n6.keep g7).keep g8).keep g9), ((n7.keep g8).keep g9), (n8.keep g9), n9⟩
  have hg : G w W9 := ((((((((((show G w W0 by rw [hW0]; exact (G.rf _).a _).t g1).t g2).t g3).t g4).t g5).t g6).t g7).t g8).t g9)
  have HB0 := Lib.hid hx.b0
  have HX := Lib.hid (And.intro hx.at hg)
  clear hx hg n0 n1 n2 n3 n4 n5 n6 n7 n8 n9 hs0 hs1 hs2 hs3 hs4 hs5 hs6 hs7 hs8 hs9 g1 g2 g3 g4 g5 g6 g7 g8 g9
  have HEQ := Lib.hid (show W9 = _ from by rw [hW9, hW8, hW7, hW6, hW5, hW4, hW3, hW2, hW1, hW0])
  clear hW9 hW8 hW7 hW6 hW5 hW4 hW3 hW2 hW1 hW0
  go_enter Tryz.func45, Tryz.ntmps45
  go_wp2_with fail
  rw [← HEQ.out]
  try simp only [Exit.inBlock, Exit.then]
  refine bodyPost_ret (res45 _ _ w.heap.size _ _ _ _ _ _ _ _ _ rfl HB0.out) rfl ?_
  exact ⟨rfl, HX.out⟩
end Go.Proofs.YtnkmcoljijmgpaaGreat

set_option linter.unusedSimpArgs false
set_option linter.unusedVariables false
namespace Go.Proofs.YtnkmcoljijmgpaaGreat
open Go.RowKit Go.Shelf Go.Sort Go.Maps
attribute [local go_sem] Oper.semAt_some
theorem ex_race (B : Nat) : raceB (exR B) = true := by kernel_rfl
theorem ex_run0 (B : Nat) : runners (exR B) 0 = [⟨11, 1, 1, 1, some ⟨B + 1, 0, none⟩, 3, [0, 1, 2]⟩, ⟨12, 2, 2, 1, some ⟨B + 1 + 1, 0, none⟩, 2, [0, 1]⟩, ⟨13, 1, 2, 1, some ⟨B + 1 + 1 + 1, 0, none⟩, 3, [0, 1, 2]⟩, ⟨14, 3, 1, 2, some ⟨B + 1 + 1 + 1 + 1, 0, none⟩, 2, [0, 1]⟩, ⟨15, 2, 0, 0, some ⟨B + 1 + 1 + 1 + 1 + 1, 0, none⟩, 2, [0, 2]⟩] := by
  unfold runners srt
  rw [show (exR B).racers.filter (fun x => inL x.pools 0) = [⟨11, 1, 1, 1, some ⟨B + 1, 0, none⟩, 3, [0, 1, 2]⟩, ⟨12, 2, 2, 1, some ⟨B + 1 + 1, 0, none⟩, 2, [0, 1]⟩, ⟨13, 1, 2, 1, some ⟨B + 1 + 1 + 1, 0, none⟩, 3, [0, 1, 2]⟩, ⟨14, 3, 1, 2, some ⟨B + 1 + 1 + 1 + 1, 0, none⟩, 2, [0, 1]⟩, ⟨15, 2, 0, 0, some ⟨B + 1 + 1 + 1 + 1 + 1, 0, none⟩, 2, [0, 2]⟩] by kernel_rfl]
  exact List.mergeSort_of_pairwise (by simp)
def exF0 (B : Nat) : Fu := ⟨⟨1000, 100, 1, some ⟨B + 1 + 1 + 1 + 1 + 1 + 1 + 1, 0, none⟩, 3, [500, 300, 100], 0, false⟩, none, 0, [⟨11, 1, 1, 1, some ⟨B + 1, 0, none⟩, 3, [0, 1, 2]⟩, ⟨12, 2, 2, 1, some ⟨B + 1 + 1, 0, none⟩, 2, [0, 1]⟩, ⟨13, 1, 2, 1, some ⟨B + 1 + 1 + 1, 0, none⟩, 3, [0, 1, 2]⟩, ⟨14, 3, 1, 2, some ⟨B + 1 + 1 + 1 + 1, 0, none⟩, 2, [0, 1]⟩, ⟨15, 2, 0, 0, some ⟨B + 1 + 1 + 1 + 1 + 1, 0, none⟩, 2, [0, 2]⟩], some ⟨B + 1 + 1 + 1 + 1 + 1 + 1 + 1 + 1 + 1, 0, none⟩, 2, [11, 13]⟩
theorem ex_fu0 (B : Nat) : fuOf (exR B) 0 none 0 = exF0 B := by
  unfold fuOf
  rw [ex_run0]
  rfl
theorem ex_run1 (B : Nat) : runners (exR B) 1 = [⟨11, 1, 1, 1, some ⟨B + 1, 0, none⟩, 3, [0, 1, 2]⟩, ⟨12, 2, 2, 1, some ⟨B + 1 + 1, 0, none⟩, 2, [0, 1]⟩, ⟨13, 1, 2, 1, some ⟨B + 1 + 1 + 1, 0, none⟩, 3, [0, 1, 2]⟩, ⟨14, 3, 1, 2, some ⟨B + 1 + 1 + 1 + 1, 0, none⟩, 2, [0, 1]⟩] := by
  unfold runners srt
  rw [show (exR B).racers.filter (fun x => inL x.pools 1) = [⟨11, 1, 1, 1, some ⟨B + 1, 0, none⟩, 3, [0, 1, 2]⟩, ⟨12, 2, 2, 1, some ⟨B + 1 + 1, 0, none⟩, 2, [0, 1]⟩, ⟨13, 1, 2, 1, some ⟨B + 1 + 1 + 1, 0, none⟩, 3, [0, 1, 2]⟩, ⟨14, 3, 1, 2, some ⟨B + 1 + 1 + 1 + 1, 0, none⟩, 2, [0, 1]⟩] by kernel_rfl]
  exact List.mergeSort_of_pairwise (by simp)
def exF1 (B : Nat) : Fu := ⟨⟨333, 0, 2, none, 0, [], 2, false⟩, none, 0, [⟨11, 1, 1, 1, some ⟨B + 1, 0, none⟩, 3, [0, 1, 2]⟩, ⟨12, 2, 2, 1, some ⟨B + 1 + 1, 0, none⟩, 2, [0, 1]⟩, ⟨13, 1, 2, 1, some ⟨B + 1 + 1 + 1, 0, none⟩, 3, [0, 1, 2]⟩, ⟨14, 3, 1, 2, some ⟨B + 1 + 1 + 1 + 1, 0, none⟩, 2, [0, 1]⟩], some ⟨B + 1 + 1 + 1 + 1 + 1 + 1 + 1 + 1 + 1, 0, none⟩, 2, [11, 13]⟩
theorem ex_fu1 (B : Nat) : fuOf (exR B) 1 none 0 = exF1 B := by
  unfold fuOf
  rw [ex_run1]
  rfl
theorem ex_run2 (B : Nat) : runners (exR B) 2 = [⟨11, 1, 1, 1, some ⟨B + 1, 0, none⟩, 3, [0, 1, 2]⟩, ⟨13, 1, 2, 1, some ⟨B + 1 + 1 + 1, 0, none⟩, 3, [0, 1, 2]⟩, ⟨15, 2, 0, 0, some ⟨B + 1 + 1 + 1 + 1 + 1, 0, none⟩, 2, [0, 2]⟩] := by
  unfold runners srt
  rw [show (exR B).racers.filter (fun x => inL x.pools 2) = [⟨11, 1, 1, 1, some ⟨B + 1, 0, none⟩, 3, [0, 1, 2]⟩, ⟨13, 1, 2, 1, some ⟨B + 1 + 1 + 1, 0, none⟩, 3, [0, 1, 2]⟩, ⟨15, 2, 0, 0, some ⟨B + 1 + 1 + 1 + 1 + 1, 0, none⟩, 2, [0, 2]⟩] by kernel_rfl]
  exact List.mergeSort_of_pairwise (by simp)
def exF2 (B : Nat) : Fu := ⟨⟨500, 0, 3, none, 0, [], 0, true⟩, none, 0, [⟨11, 1, 1, 1, some ⟨B + 1, 0, none⟩, 3, [0, 1, 2]⟩, ⟨13, 1, 2, 1, some ⟨B + 1 + 1 + 1, 0, none⟩, 3, [0, 1, 2]⟩, ⟨15, 2, 0, 0, some ⟨B + 1 + 1 + 1 + 1 + 1, 0, none⟩, 2, [0, 2]⟩], some ⟨B + 1 + 1 + 1 + 1 + 1 + 1 + 1 + 1 + 1, 0, none⟩, 2, [11, 13]⟩
theorem ex_fu2 (B : Nat) : fuOf (exR B) 2 none 0 = exF2 B := by
  unfold fuOf
  rw [ex_run2]
  rfl
theorem ex_tk0_0 (B : Nat) : takersL (exF0 B) [] = [⟨11, 1, 1, 1, some ⟨B + 1, 0, none⟩, 3, [0, 1, 2]⟩, ⟨12, 2, 2, 1, some ⟨B + 1 + 1, 0, none⟩, 2, [0, 1]⟩, ⟨13, 1, 2, 1, some ⟨B + 1 + 1 + 1, 0, none⟩, 3, [0, 1, 2]⟩, ⟨14, 3, 1, 2, some ⟨B + 1 + 1 + 1 + 1, 0, none⟩, 2, [0, 1]⟩] := by
  unfold takersL tks
  rw [show (exF0 B).rs.filter (fun x => !skipB (exF0 B).po.first [] x) = [⟨11, 1, 1, 1, some ⟨B + 1, 0, none⟩, 3, [0, 1, 2]⟩, ⟨12, 2, 2, 1, some ⟨B + 1 + 1, 0, none⟩, 2, [0, 1]⟩, ⟨13, 1, 2, 1, some ⟨B + 1 + 1 + 1, 0, none⟩, 3, [0, 1, 2]⟩, ⟨14, 3, 1, 2, some ⟨B + 1 + 1 + 1 + 1, 0, none⟩, 2, [0, 1]⟩] by kernel_rfl]
  exact List.mergeSort_of_pairwise (by simp [lexL])
theorem ex_wn0_0 (B : Nat) : wonL (exF0 B) [] = [(11, 2250), (12, 900), (13, 900), (14, 0)] := by
  unfold wonL orderL
  rw [ex_tk0_0]
  kernel_rfl
theorem ex_tk0_11 (B : Nat) : takersL (exF0 B) [11] = [⟨12, 2, 2, 1, some ⟨B + 1 + 1, 0, none⟩, 2, [0, 1]⟩, ⟨13, 1, 2, 1, some ⟨B + 1 + 1 + 1, 0, none⟩, 3, [0, 1, 2]⟩, ⟨14, 3, 1, 2, some ⟨B + 1 + 1 + 1 + 1, 0, none⟩, 2, [0, 1]⟩] := by
  unfold takersL tks
  rw [show (exF0 B).rs.filter (fun x => !skipB (exF0 B).po.first [11] x) = [⟨12, 2, 2, 1, some ⟨B + 1 + 1, 0, none⟩, 2, [0, 1]⟩, ⟨13, 1, 2, 1, some ⟨B + 1 + 1 + 1, 0, none⟩, 3, [0, 1, 2]⟩, ⟨14, 3, 1, 2, some ⟨B + 1 + 1 + 1 + 1, 0, none⟩, 2, [0, 1]⟩] by kernel_rfl]
  exact List.mergeSort_of_pairwise (by simp [lexL])
theorem ex_wn0_11 (B : Nat) : wonL (exF0 B) [11] = [(12, 1800), (13, 1800), (14, 450)] := by
  unfold wonL orderL
  rw [ex_tk0_11]
  kernel_rfl
theorem ex_tk0_13 (B : Nat) : takersL (exF0 B) [13] = [⟨11, 1, 1, 1, some ⟨B + 1, 0, none⟩, 3, [0, 1, 2]⟩, ⟨12, 2, 2, 1, some ⟨B + 1 + 1, 0, none⟩, 2, [0, 1]⟩, ⟨14, 3, 1, 2, some ⟨B + 1 + 1 + 1 + 1, 0, none⟩, 2, [0, 1]⟩] := by
  unfold takersL tks
  rw [show (exF0 B).rs.filter (fun x => !skipB (exF0 B).po.first [13] x) = [⟨11, 1, 1, 1, some ⟨B + 1, 0, none⟩, 3, [0, 1, 2]⟩, ⟨12, 2, 2, 1, some ⟨B + 1 + 1, 0, none⟩, 2, [0, 1]⟩, ⟨14, 3, 1, 2, some ⟨B + 1 + 1 + 1 + 1, 0, none⟩, 2, [0, 1]⟩] by kernel_rfl]
  exact List.mergeSort_of_pairwise (by simp [lexL])
theorem ex_wn0_13 (B : Nat) : wonL (exF0 B) [13] = [(11, 2250), (12, 1350), (14, 450)] := by
  unfold wonL orderL
  rw [ex_tk0_13]
  kernel_rfl
theorem ex_tk0_11_13 (B : Nat) : takersL (exF0 B) [11, 13] = [⟨12, 2, 2, 1, some ⟨B + 1 + 1, 0, none⟩, 2, [0, 1]⟩, ⟨14, 3, 1, 2, some ⟨B + 1 + 1 + 1 + 1, 0, none⟩, 2, [0, 1]⟩] := by
  unfold takersL tks
  rw [show (exF0 B).rs.filter (fun x => !skipB (exF0 B).po.first [11, 13] x) = [⟨12, 2, 2, 1, some ⟨B + 1 + 1, 0, none⟩, 2, [0, 1]⟩, ⟨14, 3, 1, 2, some ⟨B + 1 + 1 + 1 + 1, 0, none⟩, 2, [0, 1]⟩] by kernel_rfl]
  exact List.mergeSort_of_pairwise (by simp [lexL])
theorem ex_wn0_11_13 (B : Nat) : wonL (exF0 B) [11, 13] = [(12, 2250), (14, 1350)] := by
  unfold wonL orderL
  rw [ex_tk0_11_13]
  kernel_rfl
theorem ex_tk1_0 (B : Nat) : takersL (exF1 B) [] = [⟨11, 1, 1, 1, some ⟨B + 1, 0, none⟩, 3, [0, 1, 2]⟩, ⟨12, 2, 2, 1, some ⟨B + 1 + 1, 0, none⟩, 2, [0, 1]⟩, ⟨13, 1, 2, 1, some ⟨B + 1 + 1 + 1, 0, none⟩, 3, [0, 1, 2]⟩, ⟨14, 3, 1, 2, some ⟨B + 1 + 1 + 1 + 1, 0, none⟩, 2, [0, 1]⟩] := by
  unfold takersL tks
  rw [show (exF1 B).rs.filter (fun x => !skipB (exF1 B).po.first [] x) = [⟨11, 1, 1, 1, some ⟨B + 1, 0, none⟩, 3, [0, 1, 2]⟩, ⟨12, 2, 2, 1, some ⟨B + 1 + 1, 0, none⟩, 2, [0, 1]⟩, ⟨13, 1, 2, 1, some ⟨B + 1 + 1 + 1, 0, none⟩, 3, [0, 1, 2]⟩, ⟨14, 3, 1, 2, some ⟨B + 1 + 1 + 1 + 1, 0, none⟩, 2, [0, 1]⟩] by kernel_rfl]
  exact List.mergeSort_of_pairwise (by simp [lexL])
theorem ex_wn1_0 (B : Nat) : wonL (exF1 B) [] = [(11, 666), (12, 333), (13, 333), (14, 0)] := by
  unfold wonL orderL
  rw [ex_tk1_0]
  kernel_rfl
theorem ex_tk2_0 (B : Nat) : takersL (exF2 B) [] = [⟨11, 1, 1, 1, some ⟨B + 1, 0, none⟩, 3, [0, 1, 2]⟩, ⟨13, 1, 2, 1, some ⟨B + 1 + 1 + 1, 0, none⟩, 3, [0, 1, 2]⟩] := by
  unfold takersL tks
  rw [show (exF2 B).rs.filter (fun x => !skipB (exF2 B).po.first [] x) = [⟨11, 1, 1, 1, some ⟨B + 1, 0, none⟩, 3, [0, 1, 2]⟩, ⟨13, 1, 2, 1, some ⟨B + 1 + 1 + 1, 0, none⟩, 3, [0, 1, 2]⟩] by kernel_rfl]
  exact List.mergeSort_of_pairwise (by simp [lexL])
theorem ex_wn2_0 (B : Nat) : wonL (exF2 B) [] = [(11, 1500), (13, 0)] := by
  unfold wonL orderL
  rw [ex_tk2_0]
  kernel_rfl
theorem ex_pot (B : Nat) : potV (fuOf (exR B) 0 none 0) = #[.int .i64 5000, .int .i64 500, .int .i64 4500, .int .i64 450] := by
  rw [ex_fu0]
  unfold potV resI
  rw [ex_wn0_0]
  kernel_rfl
theorem ex_q (B : Nat) : qE (exR B) 0 [] = 0 := by
  unfold qE
  rw [ex_race]
  kernel_rfl
theorem ex_q12 (B : Nat) : qE (exR B) 0 [12] = 0 := by
  unfold qE
  rw [ex_race, ex_run0]
  kernel_rfl
theorem ex_cases : caseL [11, 13] = [[], [11], [13], [11, 13]] := by kernel_rfl
theorem ex_lo (B : Nat) : canLo (fuOf (exR B) 0 none 0) 12 (caseL [11, 13]) = 900 := by
  rw [ex_fu0, ex_cases]
  unfold canLo
  simp only [List.foldl]
  rw [ex_wn0_0, ex_wn0_11, ex_wn0_13, ex_wn0_11_13]
  kernel_rfl
theorem ex_hi (B : Nat) : canHi (fuOf (exR B) 0 none 0) 12 (caseL [11, 13]) = 2250 := by
  rw [ex_fu0, ex_cases]
  unfold canHi
  simp only [List.foldl]
  rw [ex_wn0_0, ex_wn0_11, ex_wn0_13, ex_wn0_11_13]
  kernel_rfl
theorem ex_pz0 (B : Nat) : prizesL (exF0 B) = (List.range 5).map fun i => (⟨((exF0 B).rs.getD i default).bird, wonAt [(11, 2250), (12, 900), (13, 900), (14, 0)] ((exF0 B).rs.getD i default).bird, shareI (lefI (exF0 B) - sndS [(11, 2250), (12, 900), (13, 900), (14, 0)]) 5 i⟩ : Pz) := by
  unfold prizesL resI
  rw [ex_wn0_0]
  rfl
theorem ex_pz1 (B : Nat) : prizesL (exF1 B) = (List.range 4).map fun i => (⟨((exF1 B).rs.getD i default).bird, wonAt [(11, 666), (12, 333), (13, 333), (14, 0)] ((exF1 B).rs.getD i default).bird, shareI (lefI (exF1 B) - sndS [(11, 666), (12, 333), (13, 333), (14, 0)]) 4 i⟩ : Pz) := by
  unfold prizesL resI
  rw [ex_wn1_0]
  rfl
theorem ex_pz2 (B : Nat) : prizesL (exF2 B) = (List.range 3).map fun i => (⟨((exF2 B).rs.getD i default).bird, wonAt [(11, 1500), (13, 0)] ((exF2 B).rs.getD i default).bird, shareI (lefI (exF2 B) - sndS [(11, 1500), (13, 0)]) 3 i⟩ : Pz) := by
  unfold prizesL resI
  rw [ex_wn2_0]
  rfl
def puG (rs : List Rc) (stake : Int) (PL : List Pz) (acc : List Pu) : Nat → List Pu
  | 0 => acc
  | j + 1 => putP (puG rs stake PL acc j) (addP (atP (puG rs stake PL acc j) (rs.getD j default).owner) stake ((PL.getD j default).won + (PL.getD j default).back))
theorem puIn_G (f : Fu) (acc : List Pu) : ∀ j, puIn f acc j = puG f.rs f.po.stake (prizesL f) acc j
  | 0 => rfl
  | j + 1 => by unfold puIn puG; rw [puIn_G f acc j]
theorem ex_pu (B : Nat) : puTo (exR B) 3 = [⟨1, 3666, 5829⟩, ⟨2, 2833, 1413⟩, ⟨3, 1333, 90⟩] := by
  have h : puTo (exR B) 3 = puIn (fuOf (exR B) 2 none 0) (puIn (fuOf (exR B) 1 none 0) (puIn (fuOf (exR B) 0 none 0) (pu0 (exR B).racers 5) (runners (exR B) 0).length) (runners (exR B) 1).length) (runners (exR B) 2).length := rfl
  rw [h, ex_fu0, ex_fu1, ex_fu2, ex_run0, ex_run1, ex_run2]
  have l5 : ∀ a b c d e : Rc, [a, b, c, d, e].length = 5 := fun _ _ _ _ _ => rfl
  have l4 : ∀ a b c d : Rc, [a, b, c, d].length = 4 := fun _ _ _ _ => rfl
  have l3 : ∀ a b c : Rc, [a, b, c].length = 3 := fun _ _ _ => rfl
  rw [l5, l4, l3, puIn_G, puIn_G, puIn_G, ex_pz0, ex_pz1, ex_pz2]
  clear l5 l4 l3 h
  show puG _ _ _ _ _ = _
  kernel_rfl
theorem ex_purses (B : Nat) : pursesL (exR B) = [⟨1, 3666, 5829⟩, ⟨2, 2833, 1413⟩, ⟨3, 1333, 90⟩] := by
  unfold pursesL srtP
  rw [show (exR B).pools.length = 3 from rfl, ex_pu]
  exact List.mergeSort_of_pairwise (by simp)
end Go.Proofs.YtnkmcoljijmgpaaGreat

set_option linter.unusedSimpArgs false
set_option linter.unusedVariables false
namespace Go.Proofs.YtnkmcoljijmgpaaGreat
open Go.RowKit Go.Shelf Go.Sort Go.Maps
attribute [local go_sem] Oper.semAt_some
theorem ex_Pot (B : Nat) (W : World) (h : (exR B).At W) : Calls Tryz.prog 17 #[.agg (exR B).v, .int .i64 0] W fun e w' => e = .returned (.tuple #[.agg #[.int .i64 5000, .int .i64 500, .int .i64 4500, .int .i64 450], .int .i64 0]) ∧ G W w' := by
  refine (Pot_any (exR B) 0 W h).mono ?_
  rintro e w' ⟨hG, hh⟩
  rcases hh with ⟨a, _⟩ | ⟨_, a⟩
  · exact absurd (ex_q B) a
  · rw [ex_pot] at a
    exact ⟨a, hG⟩
theorem ex_Can (B : Nat) (W : World) (h : (exR B).At W) : Calls Tryz.prog 25 #[.agg (exR B).v, .int .i64 0, .int .i64 12] W fun e w' => e = .returned (.tuple #[.agg #[.int .i64 900, .int .i64 2250], .int .i64 0]) ∧ G W w' := by
  refine (Can_any (exR B) 0 12 W h).mono ?_
  rintro e w' ⟨hG, hh⟩
  rcases hh with ⟨a, _⟩ | ⟨_, a⟩
  · exact absurd (ex_q12 B) a
  · rw [show (exR B).protests = [11, 13] from rfl, ex_lo, ex_hi] at a
    exact ⟨a, hG⟩
theorem ex_Pur (B : Nat) (W : World) (h : (exR B).At W) : Calls Tryz.prog 19 #[.agg (exR B).v] W fun e w' => ∃ g c, e = .returned (.tuple #[.slice (some ⟨g, 0, none⟩) 3 c, .int .i64 0]) ∧ G W w' ∧ g < w'.heap.size ∧ w'.cell? ⟨g, 3, none⟩ = some (.int .i64 2) ∧ w'.cell? ⟨g, 4, none⟩ = some (.int .i64 2833) ∧ w'.cell? ⟨g, 5, none⟩ = some (.int .i64 1413) := by
  refine (Purses_any (exR B) W h).mono ?_
  rintro e w' ⟨hG, hh⟩
  rcases hh with ⟨a, _⟩ | ⟨_, v, rfl, a⟩
  · rw [ex_race] at a; cases a
  · rw [ex_purses] at a
    obtain ⟨g, cap, cur, rfl, hb, hl, ht⟩ := own_some a (by decide)
    exact ⟨g, cap, rfl, hG, hl, take_cell hb ht (by decide) rfl, take_cell hb ht (by decide) rfl, take_cell hb ht (by decide) rfl⟩
set_option maxRecDepth 100000 in
set_option maxHeartbeats 4000000 in
theorem works_any (w : World) : Calls Tryz.prog 15 #[] w fun e w' => e = .returned (.bool true) ∧ G w w' := by
  have HEX := Lib.hid (fun W : World => Example_any W)
  have HPO := Lib.hid ex_Pot
  have HCA := Lib.hid ex_Can
  have HPU := Lib.hid ex_Pur
  go_enter Tryz.func15, Tryz.ntmps15
  go_upto_region 2 with (first | (go_at_call 45; refine (HEX.out _).mono ?_; rintro e w1 ⟨rfl, hA1, hG1⟩) | (go_at_call 17; refine (HPO.out _ _ hA1).mono ?_; rintro e w2 ⟨rfl, hG2⟩))
  have g2 := hG1.t hG2
  have ga := (G.rf w2).a (.cells #[.int .i64 5000, .int .i64 500, .int .i64 4500, .int .i64 450] 33)
  have b2 : Blk (w2.alloc (.cells #[.int .i64 5000, .int .i64 500, .int .i64 4500, .int .i64 450] 33)) w2.heap.size 33 #[.int .i64 5000, .int .i64 500, .int .i64 4500, .int .i64 450] := Blk.new _ _ _
  have g3 := g2.t ga
  clear hA1 hG1 hG2 HPO g2 ga
  change Code.wp _ _ _ _ (w2.alloc (.cells #[.int .i64 5000, .int .i64 500, .int .i64 4500, .int .i64 450] 33))
  obtain ⟨K2, hK2⟩ : ∃ K2, K2 = w2.heap.size := ⟨_, rfl⟩
  rw [← hK2] at b2 ⊢
  clear hK2
  generalize w2.alloc (.cells #[.int .i64 5000, .int .i64 500, .int .i64 4500, .int .i64 450] 33) = w3 at *
  go_upto_region 3 with (first | (go_at_call 45; refine (HEX.out _).mono ?_; rintro e w4 ⟨rfl, hA4, hG4⟩) | (go_at_call 25; refine (HCA.out _ _ hA4).mono ?_; rintro e w5 ⟨rfl, hG5⟩))
  have g5 := hG4.t hG5
  have ga := (G.rf w5).a (.cells #[.int .i64 900, .int .i64 2250] 62)
  have b5 : Blk (w5.alloc (.cells #[.int .i64 900, .int .i64 2250] 62)) w5.heap.size 62 #[.int .i64 900, .int .i64 2250] := Blk.new _ _ _
  have g6 := g5.t ga
  have b26 := b2.keep g6
  have gw6 := g3.t g6
  clear hA4 hG4 hG5 HCA g5 ga g6 b2 g3
  change Code.wp _ _ _ _ (w5.alloc (.cells #[.int .i64 900, .int .i64 2250] 62))
  obtain ⟨K5, hK5⟩ : ∃ K5, K5 = w5.heap.size := ⟨_, rfl⟩
  rw [← hK5] at b5 ⊢
  clear hK5
  generalize w5.alloc (.cells #[.int .i64 900, .int .i64 2250] 62) = w6 at *
  go_upto_region 4 with (first | (go_at_call 45; refine (HEX.out _).mono ?_; rintro e w7 ⟨rfl, hA7, hG7⟩) | (go_at_call 19; refine (HPU.out _ _ hA7).mono ?_; rintro e w8 ⟨g8, c8, rfl, hG8, hl8, q0, q1, q2⟩))
  have g8w := hG7.t hG8
  have b28 := b26.keep g8w
  have b58 := b5.keep g8w
  have HF := Lib.hid (gw6.t g8w)
  clear hA7 hG7 hG8 HPU HEX b26 b5 gw6
  have m0 := b28.cell 0
  have m1 := b28.cell 1
  have m2 := b28.cell 2
  have m3 := b28.cell 3
  have lm := b28.lt
  have n0 := b58.cell 0
  have n1 := b58.cell 1
  have ln := b58.lt
  go_wp2_with fail
  first | (go_ret; exact ⟨rfl, HF.out⟩) | trace_state
end Go.Proofs.YtnkmcoljijmgpaaGreat

set_option linter.unusedSimpArgs false
set_option linter.unusedVariables false
namespace Go.Proofs.YtnkmcoljijmgpaaGreat
open Go.RowKit Go.Shelf Go.Sort Go.Maps
attribute [local go_sem] Oper.semAt_some
theorem within_any (n lo hi : Int) (w : World) : Calls Tryz.prog 69 #[.int .i64 n, .int .i64 lo, .int .i64 hi] w fun e w' => e = .returned (.bool (isInB n lo hi)) ∧ G w w' := by
  by_cases h1 : lo ≤ n
  · by_cases h2 : n ≤ hi
    · have HH : Hid (isInB n lo hi = true) := by unfold isInB Hid; simp [h1, h2]
      go_enter Tryz.func69, Tryz.ntmps69
      go_wp2
      go_ret
      exact ⟨by rw [HH.out]; first | rfl | simp [h1, h2], G.rf _⟩
    · have HH : Hid (isInB n lo hi = false) := by unfold isInB Hid; simp [h1, h2]
      go_enter Tryz.func69, Tryz.ntmps69
      go_wp2
      go_ret
      exact ⟨by rw [HH.out]; first | rfl | simp [h1, h2], G.rf _⟩
  · have HH : Hid (isInB n lo hi = false) := by unfold isInB Hid; simp [h1]
    go_enter Tryz.func69, Tryz.ntmps69
    go_wp2
    go_ret
    exact ⟨by rw [HH.out]; first | rfl | simp [h1], G.rf _⟩
/-- the place of a bird, -1 if it is not there -/
def idxR (l : List Rc) (b : Int) : Int := match (List.range l.length).find? fun i => (l.getD i default).bird == b with | some i => i | none => -1
theorem find_range {p : Nat → Bool} {n k : Nat} (hk : k < n) (hp : p k = true) (hno : ∀ j, j < k → p j = false) : (List.range n).find? p = some k := by
  rw [List.find?_range_eq_some]
  exact ⟨hp, List.mem_range.2 hk, fun j hj => by simpa using hno j hj⟩
theorem idxR_some {l : List Rc} {b : Int} {k : Nat} (hk : k < l.length) (h : (l.getD k default).bird = b) (hno : ∀ j, j < k → ¬ (l.getD j default).bird = b) : idxR l b = k := by
  unfold idxR
  rw [find_range hk (by simpa using h) (fun j hj => by simpa using hno j hj)]
theorem idxR_none {l : List Rc} {b : Int} (hno : ∀ j, j < l.length → ¬ (l.getD j default).bird = b) : idxR l b = -1 := by
  unfold idxR
  rw [List.find?_eq_none.2 (fun j hj => by simpa using hno j (List.mem_range.1 hj))]
theorem first_or {p : Nat → Prop} [DecidablePred p] : ∀ n : Nat, (∀ j, j < n → ¬ p j) ∨ ∃ k, k < n ∧ p k ∧ ∀ j, j < k → ¬ p j
  | 0 => .inl fun j hj => by omega
  | n + 1 => by
    rcases first_or (p := p) n with h | ⟨k, h1, h2, h3⟩
    · by_cases hn : p n
      · exact .inr ⟨n, by omega, hn, h⟩
      · exact .inl fun j hj => by
          rcases Nat.lt_or_ge j n with h4 | h4
          · exact h j h4
          · obtain rfl : j = n := by omega
            exact hn
    · exact .inr ⟨k, by omega, h2, h3⟩
theorem racer_idx (l : List Rc) (a : Option Addr) (c : Nat) (v1 v2 : Value) (b : Int) (w : World) (h : RowE Rc.v 5 w a l) (hl : l.length ≤ 1000) : Calls Tryz.prog 43 #[.agg #[.slice a l.length c, v1, v2], .int .i64 b] w fun e w' => e = .returned (.int .i64 (idxR l b)) ∧ G w w' := by
  have g0 : G w (w.alloc (.cells #[.slice a l.length c, v1, v2] 26)) := (G.rf _).a _
  have b0 : Blk (w.alloc (.cells #[.slice a l.length c, v1, v2] 26)) w.heap.size 26 #[.slice a l.length c, v1, v2] := Blk.new _ _ _
  have h0 := h.below g0
  clear h
  go_enter Tryz.func43, Tryz.ntmps43
  go_upto_region 1 with fail
  change Code.wp _ _ _ _ (w.alloc (.cells #[.slice a l.length c, v1, v2] 26))
  generalize w.alloc (.cells #[.slice a l.length c, v1, v2] 26) = W1 at *
  have m0 := b0.cell 0
  have l0 := b0.lt
  have HF : Hid (∀ k, k < l.length → (l.getD k default).bird = b → (∀ j, j < k → ¬ (l.getD j default).bird = b) → idxR l b = (k : Nat)) := fun k hk e hno => idxR_some hk e hno
  have HNO : Hid ((∀ j, j < l.length → ¬ (l.getD j default).bird = b) → idxR l b = -1) := fun hno => idxR_none hno
  go_wp2_with fail
  clear m0 l0
  go_loopw [5] (fun i wr => ∃ k : Nat, k ≤ l.length ∧ i = .int .i64 k ∧ Hid (∀ j, j < k → ¬ (l.getD j default).bird = b) ∧ G W1 wr) (fun i _ => l.length - (intOf i).toNat)
  case atStart => exact ⟨0, Nat.zero_le _, rfl, fun j hj => by omega, G.rf _⟩
  case round =>
    obtain ⟨k, hk, rfl, HN, hG⟩ := hrel
    obtain ⟨wo, rfl⟩ : ∃ wo, wo = wr := ⟨_, rfl⟩
    have bo := b0.keep hG
    have m0 := bo.cell 0
    have l0 := bo.lt
    by_cases hlt : k < l.length
    · have hki : (k : Int) < l.length := by omega
      rcases h0 with h | ⟨g, off, rfl, hg, hcell⟩
      · omega
      have q0 : wo.cell? ⟨g, off + k * 5, none⟩ = some (.int .i64 (l.getD k default).bird) := ((bcellB hG).1 g _ hg).trans (hcell k hlt 0 (by omega))
      have lg := Nat.lt_of_lt_of_le hg hG.size
      have HF2 := Lib.hid (fun e => HF.out k hlt e HN.out)
      obtain ⟨y, hy⟩ : ∃ y, y = (l.getD k default).bird := ⟨_, rfl⟩
      have HY := Lib.hid hy
      rw [← hy] at q0 HF2
      clear hy hcell
      by_cases hb : y = b
      · have HR := Lib.hid (HF2.out hb)
        go_wp2_with fail
        go_ret
        exact ⟨by rw [HR.out]; rfl, g0.t hG⟩
      · have hbf : (y == b) = false := by simpa using hb
        go_wp2_with fail
        go_roundw
        case rel => exact ⟨k + 1, by omega, by go_num, fun j hj => by
          rcases Nat.lt_or_ge j k with h4 | h4
          · exact HN.out j h4
          · obtain rfl : j = k := by omega
            rw [← HY.out]; exact hb, hG⟩
        case measure => simp [intOf] <;> omega
    · obtain rfl : k = l.length := by omega
      have hki : ¬ ((l.length : Nat) : Int) < l.length := by omega
      have HR := Lib.hid (HNO.out HN.out)
      go_wp2_with fail
      go_ret
      exact ⟨by rw [HR.out]; rfl, g0.t hG⟩
end Go.Proofs.YtnkmcoljijmgpaaGreat

