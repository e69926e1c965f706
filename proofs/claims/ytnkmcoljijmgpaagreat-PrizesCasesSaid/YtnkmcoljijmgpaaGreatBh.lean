import Derived.Test.YtnkmcoljijmgpaaGreatBb
set_option linter.unusedSimpArgs false
set_option linter.unusedVariables false
namespace Go.Proofs.YtnkmcoljijmgpaaGreat
open Go.RowKit Go.Shelf Go.Sort Go.Maps
attribute [local go_sem] Oper.semAt_some
theorem own_won {W : World} {m : Nat} {ps : List (Int × Int)} {b s n : Nat} {e : TypeId} {v : Value} {xs : List Value} (hw : Won W m ps) (h : W.ownsRow b e s v n xs) : some m ≠ v.ownBlock := by
  rcases h.2 with ⟨rfl, _⟩ | ⟨g, cap, cur, rfl, _, hg, _⟩
  · exact fun e => by cases e
  · exact fun e => by
      have e2 : m = g := by injection e
      exact hw.ne (show Blk W g _ cur from hg) e2.symm
theorem Won.grown {W W' : World} {m : Nat} {ps : List (Int × Int)} {row : Option Nat} (h : Won W m ps) (hg : W.grownBy W' row) (hne : some m ≠ row) : Won W' m ps := by
  obtain ⟨D, h1, h2⟩ := h
  exact ⟨D, h1.kept hg hne, h2⟩
set_option maxRecDepth 100000 in
set_option maxHeartbeats 8000000 in
theorem prizes_any (f : Fu) (w : World) (h : GF f w) : Calls Tryz.prog 52 #[.agg f.v] w (PzPost w (prizesL f)) := by
  have HW := Lib.hid (fun (W : World) (hW : G w W) => (h.keep hW).won [] none 0 (.inl rfl) (by simp))
  have HR := Lib.hid (fun (W : World) (hW : G w W) (m : Nat) (hm : Won W m (wonL f [])) => (h.keep hW).rest [] m hm)
  have hfa := h.facts []
  have HF := Lib.hid hfa
  have hrow := h.row
  have HBD := Lib.hid h.bd
  have h12 := h.B.many
  have hrl : 0 ≤ resI f [] ∧ resI f [] ≤ 1200000 := by unfold resI; have a := hfa.le; have b := hfa.bound; have c := hfa.pos; omega
  have hpl := prizesL_len f
  have HTK := Lib.hid (fun (i : Nat) (hi : i < f.rs.length) => prizesL_take f hi)
  have HWB : Hid (∀ b, 0 ≤ wonAt (wonL f []) b ∧ wonAt (wonL f []) b ≤ 1200000) := fun b => ⟨wonAt_nonneg hfa.nonneg b, by have a := wonAt_le hfa.nonneg b; have b1 := hfa.le; have b2 := hfa.bound; omega⟩
  have HP : Hid (∀ w' v, w'.ownsRow w.heap.size 40 3 v (prizesL f).length (cv Pz.v (prizesL f)) → G w w' → PzPost w (prizesL f) (.returned v) w') := fun w' v a b => ⟨v, rfl, a, b⟩
  generalize PzPost w (prizesL f) = PP at *
  unfold resI at hrl HTK
  generalize lefI f - sndS (wonL f []) = RI at *
  generalize prizesL f = PL at *
  generalize wonL f [] = WL at *
  clear h hfa HF
  obtain ⟨⟨ystake, ycut, ykind, yta, ytc, ytable, yquota, yfirst⟩, fa, fc, rs, pa, pc, ps⟩ := f
  unfold Fu.v at *
  dsimp only at *
  have g0 : G w (w.alloc (.cells #[.int .i64 ystake, .int .i64 ycut, .int .i64 ykind, .slice yta ytable.length ytc, .int .i64 yquota, .bool yfirst, .slice fa rs.length fc, .slice pa ps.length pc] 85)) := (G.rf _).a _
  have b0 : Blk (w.alloc (.cells #[.int .i64 ystake, .int .i64 ycut, .int .i64 ykind, .slice yta ytable.length ytc, .int .i64 yquota, .bool yfirst, .slice fa rs.length fc, .slice pa ps.length pc] 85)) w.heap.size 85 #[.int .i64 ystake, .int .i64 ycut, .int .i64 ykind, .slice yta ytable.length ytc, .int .i64 yquota, .bool yfirst, .slice fa rs.length fc, .slice pa ps.length pc] := Blk.new _ _ _
  go_enter Tryz.func52, Tryz.ntmps52
  go_upto_region 1 with fail
  change Code.wp _ _ _ _ (w.alloc (.cells #[.int .i64 ystake, .int .i64 ycut, .int .i64 ykind, .slice yta ytable.length ytc, .int .i64 yquota, .bool yfirst, .slice fa rs.length fc, .slice pa ps.length pc] 85))
  generalize w.alloc (.cells #[.int .i64 ystake, .int .i64 ycut, .int .i64 ykind, .slice yta ytable.length ytc, .int .i64 yquota, .bool yfirst, .slice fa rs.length fc, .slice pa ps.length pc] 85) = W1 at *
  have m0 := b0.cell 0
  have m1 := b0.cell 1
  have m2 := b0.cell 2
  have m3 := b0.cell 3
  have m4 := b0.cell 4
  have m5 := b0.cell 5
  have m6 := b0.cell 6
  have m7 := b0.cell 7
  have l0 := b0.lt
  go_upto_region 2 with (go_at_call 51; refine (HW.out _ g0).mono ?_; rintro e w2 ⟨m, rfl, hwon, hml, hG2⟩)
  clear m0 m1 m2 m3 m4 m5 m6 m7 l0 HW
  have g2 := g0.t hG2
  have b2 := b0.keep hG2
  clear b0 hG2 g0
  have hSk : ∀ W', G w2 W' → Blk W' w.heap.size 85 #[.int .i64 ystake, .int .i64 ycut, .int .i64 ykind, .slice yta ytable.length ytc, .int .i64 yquota, .bool yfirst, .slice fa rs.length fc, .slice pa ps.length pc] ∧ Won W' m WL := fun W' hW => ⟨b2.keep hW, hwon.keep hW⟩
  refine wp_region_Y (S := fun W' => Blk W' w.heap.size 85 #[.int .i64 ystake, .int .i64 ycut, .int .i64 ykind, .slice yta ytable.length ytc, .int .i64 yquota, .bool yfirst, .slice fa rs.length fc, .slice pa ps.length pc] ∧ Won W' m WL) 7 8 rfl (by kernel_rfl) (hSk _ (G.rf _).d) (fun hS => ?_)
  have ga := (G.rf w2).d
  refine wpAnyY_take (i := 0) (v := ?_) rfl (by kernel_rfl) (by kernel_rfl) (by kernel_rfl) (by kernel_rfl) (fun _ _ _ h => h) (Or.inl ⟨by kernel_rfl, ?_⟩) hS ?_
  rotate_left
  · intro w' hSw; have m0 := hSw.1.cell 0; have m1 := hSw.1.cell 1; have m2 := hSw.1.cell 2; have m3 := hSw.1.cell 3; have m4 := hSw.1.cell 4; have m5 := hSw.1.cell 5; have m6 := hSw.1.cell 6; have m7 := hSw.1.cell 7; have l0 := hSw.1.lt; go_simp; with_reducible rfl
  try simp only [Act.put, List.getElem_toArray, List.getElem_cons_zero, List.getElem_cons_succ, List.setIfInBounds_toArray, List.set_cons_zero, List.set_cons_succ]
  refine wpAnyY_take (i := 1) (v := ?_) rfl (by kernel_rfl) (by kernel_rfl) (by kernel_rfl) (by kernel_rfl) (fun _ _ _ h => h) (Or.inl ⟨by kernel_rfl, ?_⟩) hS ?_
  rotate_left
  · intro w' hSw; go_simp; with_reducible rfl
  try simp only [Act.put, List.getElem_toArray, List.getElem_cons_zero, List.getElem_cons_succ, List.setIfInBounds_toArray, List.set_cons_zero, List.set_cons_succ]
  refine wpAnyY_take (i := 3) (v := ?_) rfl (by kernel_rfl) (by kernel_rfl) (by kernel_rfl) (by kernel_rfl) (fun _ _ _ h => h) (Or.inl ⟨by kernel_rfl, ?_⟩) hS ?_
  rotate_left
  · intro w' hSw; have l0 := hSw.1.lt; go_simp; with_reducible rfl
  try simp only [Act.put, List.getElem_toArray, List.getElem_cons_zero, List.getElem_cons_succ, List.setIfInBounds_toArray, List.set_cons_zero, List.set_cons_succ]
  refine wpAnyY_take (i := 4) (v := ?_) rfl (by kernel_rfl) (by kernel_rfl) (by kernel_rfl) (by kernel_rfl) (fun _ _ _ h => h) (Or.inl ⟨by kernel_rfl, ?_⟩) hS ?_
  rotate_left
  · intro w' hSw; have m6 := hSw.1.cell 6; have l0 := hSw.1.lt; go_simp; with_reducible rfl
  try simp only [Act.put, List.getElem_toArray, List.getElem_cons_zero, List.getElem_cons_succ, List.setIfInBounds_toArray, List.set_cons_zero, List.set_cons_succ]
  refine wpAnyY_take (i := 5) (v := ?_) rfl (by kernel_rfl) (by kernel_rfl) (by kernel_rfl) (by kernel_rfl) (fun _ _ _ h => h) (Or.inl ⟨by kernel_rfl, ?_⟩) hS ?_
  rotate_left
  · intro w' hSw; go_simp; with_reducible rfl
  try simp only [Act.put, List.getElem_toArray, List.getElem_cons_zero, List.getElem_cons_succ, List.setIfInBounds_toArray, List.set_cons_zero, List.set_cons_succ]
  refine wpAnyY_oneSW (i := 2) (by kernel_rfl) rfl (by kernel_rfl) (fun K2 hK2 => ?_)
  go_simp
  refine (HR.out _ (g2.t ga) m hS.2).mono ?_
  rintro e w3 ⟨rfl, hG3⟩
  replace ga := ga.t hG3
  refine hK2.out _ _ (hSk _ ga) (fun hS => ?_)
  clear hK2
  try simp only [Act.put, List.getElem_toArray, List.getElem_cons_zero, List.getElem_cons_succ, List.setIfInBounds_toArray, List.set_cons_zero, List.set_cons_succ]
  refine wpAnyY_oneSW (i := 6) (by kernel_rfl) rfl (by kernel_rfl) (fun K6 hK6 => ?_)
  go_simp
  refine (shares_any _ _ _).mono ?_
  rintro e w4 ⟨rfl, hA, hBk, hG4⟩
  replace ga := ga.t hG4
  refine hK6.out _ _ (hSk _ ga) (fun hS => ?_)
  clear hK6
  try simp only [Act.put, List.getElem_toArray, List.getElem_cons_zero, List.getElem_cons_succ, List.setIfInBounds_toArray, List.set_cons_zero, List.set_cons_succ]
  refine wpAnyY_oneW (i := 7) (by kernel_rfl) rfl (by kernel_rfl) (by kernel_rfl) (fun K7 hK7 => ?_)
  go_simp
  refine hK7.out _ _ ?_
  clear hK7
  try simp only [Act.put, List.getElem_toArray, List.getElem_cons_zero, List.getElem_cons_succ, List.setIfInBounds_toArray, List.set_cons_zero, List.set_cons_succ]
  refine wpAnyY_done (by kernel_rfl) ?_ _
  have g4 := g2.t ga
  have b4 := hS.1
  have hw4 := hS.2
  obtain ⟨kA, hkA⟩ : ∃ k, k = w3.heap.size := ⟨_, rfl⟩
  have hkl : w.heap.size ≤ kA := by rw [hkA]; exact Nat.le_trans (Nat.le_of_lt b2.lt) (show w2.heap.size ≤ w3.heap.size from hG3.size)
  rw [← hkA] at hA hBk ⊢
  clear hkA hS hSk ga hG3 hG4 b2 hwon g2 HR
  have m6 := b4.cell 6
  have l0 := b4.lt
  go_wp2_with fail
  clear m6 l0
  have HPL0 : Hid (PL.take 0 = []) := by simp [Hid]
  have HRW := Lib.hid (hrow.below g4)
  clear hrow
  go_loopw [5, 20] (fun v i wr => ∃ k : Nat, k ≤ rs.length ∧ i = .int .i64 k ∧ Hid (wr.ownsRow w4.heap.size 40 3 v k (cv Pz.v (PL.take k))) ∧ G w4 wr) (fun _ i _ => rs.length - (intOf i).toNat)
  case atStart => exact ⟨0, Nat.zero_le _, rfl, by rw [HPL0.out]; exact World.ownsRow_nil _ _ _ _, G.rf _⟩
  case round =>
    obtain ⟨k, hk, rfl, HO, hG⟩ := hrel
    obtain ⟨wo, rfl⟩ : ∃ wo, wo = wr := ⟨_, rfl⟩
    obtain ⟨va, vc, rfl⟩ := own_slice HO.out
    by_cases hlt : k < rs.length
    · have hki : (k : Int) < rs.length := by omega
      rcases HRW.out with h | ⟨gr, ofr, rfl, hgr, hcell⟩
      · omega
      have lg := Nat.lt_of_lt_of_le hgr hG.size
      have hcl := fun r hr => ((bcellB hG).1 gr _ hgr).trans (hcell k hlt r hr)
      have HT2 := Lib.hid (HTK.out k hlt)
      have hbd : 0 ≤ (rs.getD k default).bird ∧ (rs.getD k default).bird ≤ 9999 := HBD.out _ (by rw [List.getD_eq_getElem?_getD, List.getElem?_eq_getElem hlt]; exact List.getElem_mem _)
      obtain ⟨y, hy⟩ : ∃ y, y = rs.getD k default := ⟨_, rfl⟩
      rw [← hy] at hcl HT2 hbd
      clear hy hcell
      obtain ⟨zbird, zowner, zrank, zday, zpa, zpc, zpools⟩ := y
      unfold Rc.v at hcl
      dsimp only at HT2 hbd
      have q0 : wo.cell? ⟨gr, ofr + k * 5, none⟩ = some (.int .i64 zbird) := hcl 0 (by omega)
      have q1 : wo.cell? ⟨gr, ofr + k * 5 + 1, none⟩ = some (.int .i64 zowner) := hcl 1 (by omega)
      have q2 : wo.cell? ⟨gr, ofr + k * 5 + 2, none⟩ = some (.int .i64 zrank) := hcl 2 (by omega)
      have q3 : wo.cell? ⟨gr, ofr + k * 5 + 3, none⟩ = some (.int .i64 zday) := hcl 3 (by omega)
      have q4 : wo.cell? ⟨gr, ofr + k * 5 + 4, none⟩ = some (.slice zpa zpools.length zpc) := hcl 4 (by omega)
      clear hcl
      go_upto_region 7 with fail
      have bx : Blk (wo.alloc (.cells #[.int .i64 zbird, .int .i64 zowner, .int .i64 zrank, .int .i64 zday, .slice zpa zpools.length zpc] 60)) wo.heap.size 60 #[.int .i64 zbird, .int .i64 zowner, .int .i64 zrank, .int .i64 zday, .slice zpa zpools.length zpc] := Blk.new _ _ _
      have gw := hG.a (.cells #[.int .i64 zbird, .int .i64 zowner, .int .i64 zrank, .int .i64 zday, .slice zpa zpools.length zpc] 60)
      have HO2 := Lib.hid (own_G HO.out ((G.rf wo).a (.cells #[.int .i64 zbird, .int .i64 zowner, .int .i64 zrank, .int .i64 zday, .slice zpa zpools.length zpc] 60)))
      have hgxl : w4.heap.size ≤ wo.heap.size := hG.size
      clear q0 q1 q2 q3 q4 lg hG HO
      change Code.wp _ _ _ _ (wo.alloc (.cells #[.int .i64 zbird, .int .i64 zowner, .int .i64 zrank, .int .i64 zday, .slice zpa zpools.length zpc] 60))
      obtain ⟨gx, hgx⟩ : ∃ gx, gx = wo.heap.size := ⟨_, rfl⟩
      rw [← hgx] at bx hgxl ⊢
      clear hgx
      generalize wo.alloc (.cells #[.int .i64 zbird, .int .i64 zowner, .int .i64 zrank, .int .i64 zday, .slice zpa zpools.length zpc] 60) = w5 at *
      have hSk : ∀ W', G w5 W' → Blk W' gx 60 #[.int .i64 zbird, .int .i64 zowner, .int .i64 zrank, .int .i64 zday, .slice zpa zpools.length zpc] ∧ Won W' m WL ∧ Blk W' kA 3 #[.int .i64 RI] ∧ Blk W' (kA + 1) 3 #[.int .i64 rs.length] := fun W' hW => ⟨bx.keep hW, hw4.keep (gw.t hW), hA.keep (gw.t hW), hBk.keep (gw.t hW)⟩
      refine wp_region_Y (S := fun W' => Blk W' gx 60 #[.int .i64 zbird, .int .i64 zowner, .int .i64 zrank, .int .i64 zday, .slice zpa zpools.length zpc] ∧ Won W' m WL ∧ Blk W' kA 3 #[.int .i64 RI] ∧ Blk W' (kA + 1) 3 #[.int .i64 rs.length]) 13 14 rfl (by kernel_rfl) (hSk _ (G.rf _).d) (fun hS => ?_)
      have ga := (G.rf w5).d
      refine wpAnyY_take (i := 0) (v := ?_) rfl (by kernel_rfl) (by kernel_rfl) (by kernel_rfl) (by kernel_rfl) (fun _ _ _ h => h) (Or.inl ⟨by kernel_rfl, ?_⟩) hS ?_
      rotate_left
      · intro w' hSw; go_simp; with_reducible rfl
      try simp only [Act.put, List.getElem_toArray, List.getElem_cons_zero, List.getElem_cons_succ, List.setIfInBounds_toArray, List.set_cons_zero, List.set_cons_succ]
      refine wpAnyY_take (i := 1) (v := ?_) rfl (by kernel_rfl) (by kernel_rfl) (by kernel_rfl) (by kernel_rfl) (fun _ _ _ h => h) (Or.inl ⟨by kernel_rfl, ?_⟩) hS ?_
      rotate_left
      · intro w' hSw; have ln := hSw.1.lt; go_simp; with_reducible rfl
      try simp only [Act.put, List.getElem_toArray, List.getElem_cons_zero, List.getElem_cons_succ, List.setIfInBounds_toArray, List.set_cons_zero, List.set_cons_succ]
      refine wpAnyY_take (i := 2) (v := ?_) rfl (by kernel_rfl) (by kernel_rfl) (by kernel_rfl) (by kernel_rfl) (fun _ _ _ h => h) (Or.inl ⟨by kernel_rfl, ?_⟩) hS ?_
      rotate_left
      · intro w' hSw; have n0 := hSw.1.cell 0; have ln := hSw.1.lt; go_simp; with_reducible rfl
      try simp only [Act.put, List.getElem_toArray, List.getElem_cons_zero, List.getElem_cons_succ, List.setIfInBounds_toArray, List.set_cons_zero, List.set_cons_succ]
      refine wpAnyY_take (i := 3) (v := ?_) rfl (by kernel_rfl) (by kernel_rfl) (by kernel_rfl) (by kernel_rfl) (fun _ _ _ h => h) (Or.inl ⟨by kernel_rfl, ?_⟩) hS ?_
      rotate_left
      · intro w' hSw; go_simp; with_reducible rfl
      try simp only [Act.put, List.getElem_toArray, List.getElem_cons_zero, List.getElem_cons_succ, List.setIfInBounds_toArray, List.set_cons_zero, List.set_cons_succ]
      refine wpAnyY_take (i := 4) (v := ?_) rfl (by kernel_rfl) (by kernel_rfl) (by kernel_rfl) (by kernel_rfl) (fun _ _ _ h => h) (Or.inl ⟨by kernel_rfl, ?_⟩) hS ?_
      rotate_left
      · intro w' hSw; have ln := hSw.1.lt; go_simp; with_reducible rfl
      try simp only [Act.put, List.getElem_toArray, List.getElem_cons_zero, List.getElem_cons_succ, List.setIfInBounds_toArray, List.set_cons_zero, List.set_cons_succ]
      refine wpAnyY_take (i := 5) (v := ?_) rfl (by kernel_rfl) (by kernel_rfl) (by kernel_rfl) (by kernel_rfl) (fun _ _ _ h => h) (Or.inl ⟨by kernel_rfl, ?_⟩) hS ?_
      rotate_left
      · intro w' hSw; have n0 := hSw.1.cell 0; have ln := hSw.1.lt; go_simp; with_reducible rfl
      try simp only [Act.put, List.getElem_toArray, List.getElem_cons_zero, List.getElem_cons_succ, List.setIfInBounds_toArray, List.set_cons_zero, List.set_cons_succ]
      refine wpAnyY_take (i := 6) (v := ?_) rfl (by kernel_rfl) (by kernel_rfl) (by kernel_rfl) (by kernel_rfl) (fun _ _ _ h => h) (Or.inl ⟨by kernel_rfl, ?_⟩) hS ?_
      rotate_left
      · intro w' hSw; have hlk := hSw.2.1.at (x := zbird) (by omega) (by go_simp); go_simp; with_reducible rfl
      try simp only [Act.put, List.getElem_toArray, List.getElem_cons_zero, List.getElem_cons_succ, List.setIfInBounds_toArray, List.set_cons_zero, List.set_cons_succ]
      refine wpAnyY_take (i := 7) (v := ?_) rfl (by kernel_rfl) (by kernel_rfl) (by kernel_rfl) (by kernel_rfl) (fun _ _ _ h => h) (Or.inl ⟨by kernel_rfl, ?_⟩) hS ?_
      rotate_left
      · intro w' hSw; go_simp; with_reducible rfl
      try simp only [Act.put, List.getElem_toArray, List.getElem_cons_zero, List.getElem_cons_succ, List.setIfInBounds_toArray, List.set_cons_zero, List.set_cons_succ]
      refine wpAnyY_take (i := 8) (v := ?_) rfl (by kernel_rfl) (by kernel_rfl) (by kernel_rfl) (by kernel_rfl) (fun _ _ _ h => h) (Or.inl ⟨by kernel_rfl, ?_⟩) hS ?_
      rotate_left
      · intro w' hSw; go_simp; with_reducible rfl
      try simp only [Act.put, List.getElem_toArray, List.getElem_cons_zero, List.getElem_cons_succ, List.setIfInBounds_toArray, List.set_cons_zero, List.set_cons_succ]
      refine wpAnyY_oneSW (i := 9) (by kernel_rfl) rfl (by kernel_rfl) (fun K9 hK9 => ?_)
      go_simp
      refine (share99 RI rs.length k kA (kA + 1) _ ⟨hrl.1, by have := hrl.2; omega⟩ ⟨by omega, by omega⟩ (by omega) hS.2.2.1 hS.2.2.2).mono ?_
      rintro e w6 ⟨rfl, hG6⟩
      replace ga := ga.t hG6
      refine hK9.out _ _ (hSk _ ga) (fun hS => ?_)
      clear hK9
      try simp only [Act.put, List.getElem_toArray, List.getElem_cons_zero, List.getElem_cons_succ, List.setIfInBounds_toArray, List.set_cons_zero, List.set_cons_succ]
      refine wpAnyY_take (i := 10) (v := ?_) rfl (by kernel_rfl) (by kernel_rfl) (by kernel_rfl) (by kernel_rfl) (fun _ _ _ h => h) (Or.inl ⟨by kernel_rfl, ?_⟩) hS ?_
      rotate_left
      · intro w' hSw; go_simp; with_reducible rfl
      try simp only [Act.put, List.getElem_toArray, List.getElem_cons_zero, List.getElem_cons_succ, List.setIfInBounds_toArray, List.set_cons_zero, List.set_cons_succ]
      refine wpAnyY_oneSW (i := 11) (by kernel_rfl) rfl (by kernel_rfl) (fun K11 hK11 => ?_)
      go_simp
      refine hK11.out _ _ (hSk _ (ga.a _)) (fun hS => ?_)
      clear hK11
      try simp only [Act.put, List.getElem_toArray, List.getElem_cons_zero, List.getElem_cons_succ, List.setIfInBounds_toArray, List.set_cons_zero, List.set_cons_succ]
      have ga7 := ga.a (.cells #[.int .i64 zbird, .int .i64 (wonAt WL zbird), .int .i64 (shareI RI rs.length k)] 40)
      have hol := own_G HO2.out ga7
      obtain ⟨i0, hi0, hz0, hz1, hz2⟩ := info_parts info40
      refine wpAnyY_oneSW (i := 12) (by kernel_rfl) rfl (by kernel_rfl) (fun K12 hK12 => ?_)
      refine wp_append_own _ _ _ 36 rfl w4.heap.size 40 i0 (.agg #[.int .i64 0, .int .i64 0, .int .i64 0]) 3 24 Tryz.underlying36 hi0 hz0 hz1 hz2 rfl (by decide) _ k (cv Pz.v (PL.take k)) rfl hol ⟨w6.heap.size, 0, none⟩ 1 1 [.int .i64 zbird, .int .i64 (wonAt WL zbird), .int .i64 (shareI RI rs.length k)] rfl rfl (cell_new5 _ _ _) (by simp [Value.oneCell']) (by unfold maxLen; omega) (by omega) ?hb ?hr
      case hb => exact (gw.t ga7).size
      case hr =>
        intro v9 w9 hown9 hg9 _
        obtain ⟨lb, lcc, rfl⟩ := own_slice hown9
        refine hK12.out _ _ ⟨hS.1.grown hg9 (own_ne hol hS.1 (by decide)), hS.2.1.grown hg9 (own_won hS.2.1 hol), hS.2.2.1.grown hg9 (own_ne hol hS.2.2.1 (by decide)), hS.2.2.2.grown hg9 (own_ne hol hS.2.2.2 (by decide))⟩ (fun hS => ?_)
        clear hK12
        try simp only [Act.put, List.getElem_toArray, List.getElem_cons_zero, List.getElem_cons_succ, List.setIfInBounds_toArray, List.set_cons_zero, List.set_cons_succ]
        have g9 := grow_own (gw.t ga7) hol (Nat.le_refl _) hg9
        have HN := Lib.hid hown9
        clear hown9 hg9 hol ga7 HO2 ga
        refine wpAnyY_oneW (i := 13) (by kernel_rfl) rfl (by kernel_rfl) (by kernel_rfl) (fun K13 hK13 => ?_)
        go_simp
        refine hK13.out _ _ ?_
        clear hK13
        try simp only [Act.put, List.getElem_toArray, List.getElem_cons_zero, List.getElem_cons_succ, List.setIfInBounds_toArray, List.set_cons_zero, List.set_cons_succ]
        refine wpAnyY_done (by kernel_rfl) ?_ _
        clear hS hSk
        go_wp2_with fail
        go_roundw
        case rel => exact ⟨k + 1, by omega, by go_num, by rw [HT2.out, cv_snoc]; exact HN.out, g9⟩
        case measure => simp [intOf] <;> omega
    · obtain rfl : k = rs.length := by omega
      have hki : ¬ ((rs.length : Nat) : Int) < rs.length := by omega
      have HF := Lib.hid (HP.out wo (.slice va rs.length vc) (by
        have h9 := own_weaken HO.out g4.size
        have e9 : PL.take rs.length = PL := by rw [← hpl, List.take_length]
        rw [e9] at h9
        rw [hpl]
        exact h9) (g4.t hG))
      clear HP HO
      go_wp2_with fail
      first | exact HF.out | (go_ret; exact HF.out)
end Go.Proofs.YtnkmcoljijmgpaaGreat
set_option linter.unusedSimpArgs false
set_option linter.unusedVariables false
namespace Go.Proofs.YtnkmcoljijmgpaaGreat
open Go.RowKit Go.Shelf Go.Sort Go.Maps
attribute [local go_sem] Oper.semAt_some
def PrPost (r : Ra) (p : Int) (w : World) (e : Ending) (w' : World) : Prop := G w w' ∧ ((qE r p [] ≠ 0 ∧ e = .returned (.tuple #[.slice none 0 0, .int .i64 (qE r p [])])) ∨ (qE r p [] = 0 ∧ ∃ v, e = .returned (.tuple #[v, .int .i64 0]) ∧ w'.ownsRow w.heap.size 40 3 v (prizesL (fuOf r p none 0)).length (cv Pz.v (prizesL (fuOf r p none 0)))))
set_option maxRecDepth 100000 in
set_option maxHeartbeats 4000000 in
theorem Prizes_any (r : Ra) (p : Int) (w : World) (h : r.At w) : Calls Tryz.prog 18 #[.agg r.v, .int .i64 p] w (PrPost r p w) := by
  have HQ := Lib.hid (fun (W : World) (hW : G w W) => question_any r p [] none 0 W (h.keep hW) (.inl rfl) (by simp))
  have HE : Hid (qE r p [] ≠ 0 → ∀ W', G w W' → PrPost r p w (.returned (.tuple #[.slice none 0 0, .int .i64 (qE r p [])])) W') := fun a W' b => ⟨b, .inl ⟨a, rfl⟩⟩
  have HS : Hid (qE r p [] = 0 → ∀ W' v, G w W' → W'.ownsRow w.heap.size 40 3 v (prizesL (fuOf r p none 0)).length (cv Pz.v (prizesL (fuOf r p none 0))) → PrPost r p w (.returned (.tuple #[v, .int .i64 0])) W') := fun a W' v b c => ⟨b, .inr ⟨a, v, rfl, c⟩⟩
  have HC := Lib.hid (fun (hq : qE r p [] = 0) (W : World) (hW : G w W) (B : Nat) (fa : Option Addr) (fc : Nat) (ho : W.ownsRow B 60 5 (.slice fa (runners r p).length fc) (runners r p).length (rcV (runners r p))) => prizes_any (fuOf r p fa fc) W (gf_of (qE_parts hq).1 (qE_parts hq).2 (h.keep hW) ho))
  have HPL : Hid (∀ fa fc, prizesL (fuOf r p fa fc) = prizesL (fuOf r p none 0)) := fun _ _ => rfl
  unfold QPost at HQ
  have hv : ∀ fa fc, (fuOf r p fa fc).v = #[.int .i64 (poolAt r p).stake, .int .i64 (poolAt r p).cut, .int .i64 (poolAt r p).kind, .slice (poolAt r p).ta (poolAt r p).table.length (poolAt r p).tc, .int .i64 (poolAt r p).quota, .bool (poolAt r p).first, .slice fa (runners r p).length fc, .slice r.ta r.protests.length r.tc] := fun _ _ => rfl
  generalize PrPost r p w = PP at *
  clear h
  have g0 : G w (w.alloc (.cells r.v 26)) := (G.rf _).a _
  have b0 : Blk (w.alloc (.cells r.v 26)) w.heap.size 26 r.v := Blk.new _ _ _
  have m0 : (w.alloc (.cells r.v 26)).cell? ⟨w.heap.size, 0, none⟩ = some (.slice r.ra r.racers.length r.rc) := b0.cell 0
  have m1 : (w.alloc (.cells r.v 26)).cell? ⟨w.heap.size, 1, none⟩ = some (.slice r.pa r.pools.length r.pc) := b0.cell 1
  have m2 : (w.alloc (.cells r.v 26)).cell? ⟨w.heap.size, 2, none⟩ = some (.slice r.ta r.protests.length r.tc) := b0.cell 2
  have l0 := b0.lt
  have hrv : r.v = #[.slice r.ra r.racers.length r.rc, .slice r.pa r.pools.length r.pc, .slice r.ta r.protests.length r.tc] := rfl
  rw [hrv] at HQ g0 m0 m1 m2 l0 ⊢
  clear hrv b0
  generalize hQE : qE r p [] = QE at *
  go_enter Tryz.func18, Tryz.ntmps18
  go_upto_region 1 with fail
  change Code.wp _ _ _ _ (w.alloc (.cells #[.slice r.ra r.racers.length r.rc, .slice r.pa r.pools.length r.pc, .slice r.ta r.protests.length r.tc] 26))
  generalize w.alloc (.cells #[.slice r.ra r.racers.length r.rc, .slice r.pa r.pools.length r.pc, .slice r.ta r.protests.length r.tc] 26) = W1 at *
  by_cases hq : QE = 0
  · have HQ1 : Hid (Calls Tryz.prog 46 #[.agg #[.slice r.ra r.racers.length r.rc, .slice r.pa r.pools.length r.pc, .slice r.ta r.protests.length r.tc], .int .i64 p, .slice none 0 0] W1 fun e w' => ∃ fa fc, e = .returned (.tuple #[.agg (fuOf r p fa fc).v, .int .i64 0]) ∧ w'.ownsRow W1.heap.size 60 5 (.slice fa (runners r p).length fc) (runners r p).length (rcV (runners r p)) ∧ G W1 w') := by
      refine (HQ.out W1 g0).mono ?_
      rintro e w' ⟨hG, hh⟩
      rcases hh with ⟨a, _⟩ | ⟨_, fa, fc, a, b⟩
      · exact absurd hq a
      · exact ⟨fa, fc, a, b, hG⟩
    simp only [hv] at HQ1
    clear HQ HE
    have HC2 := Lib.hid (HC.out hq)
    clear HC
    simp only [hv] at HC2
    go_upto_region 2 with (go_at_call 46; refine (HQ1.out).mono ?_; rintro e w2 ⟨fa, fc, rfl, ho2, hG2⟩)
    have ga := (G.rf w2).a (.cells #[.int .i64 (poolAt r p).stake, .int .i64 (poolAt r p).cut, .int .i64 (poolAt r p).kind, .slice (poolAt r p).ta (poolAt r p).table.length (poolAt r p).tc, .int .i64 (poolAt r p).quota, .bool (poolAt r p).first, .slice fa (runners r p).length fc, .slice r.ta r.protests.length r.tc] 85)
    have HC3 := Lib.hid (HC2.out _ ((g0.t hG2).t ga) _ fa fc (own_G ho2 ga))
    clear ho2 HC2
    go_wp2_with (go_at_call 52; refine (HC3.out).mono ?_; rintro e w3 ⟨v, rfl, ho3, hG3⟩)
    have gz := ((g0.t hG2).t ga).t hG3
    rw [HPL.out] at ho3
    exact HS.out hq _ _ gz (own_weaken ho3 ((g0.t hG2).t ga).size)
  · have HQ0 : Hid (Calls Tryz.prog 46 #[.agg #[.slice r.ra r.racers.length r.rc, .slice r.pa r.pools.length r.pc, .slice r.ta r.protests.length r.tc], .int .i64 p, .slice none 0 0] W1 fun e w' => e = .returned (.tuple #[.agg #[.int .i64 0, .int .i64 0, .int .i64 0, .slice none 0 0, .int .i64 0, .bool false, .slice none 0 0, .slice none 0 0], .int .i64 QE]) ∧ G W1 w') := by
      refine (HQ.out W1 g0).mono ?_
      rintro e w' ⟨hG, hh⟩
      rcases hh with ⟨_, a⟩ | ⟨a, _⟩
      · exact ⟨a, hG⟩
      · exact absurd a hq
    have e0 : (QE == 0) = false := by simpa using hq
    have HE2 := Lib.hid (HE.out hq)
    clear HQ HE HC HS hv
    go_wp2_with (go_at_call 46; refine (HQ0.out).mono ?_; rintro e w2 ⟨rfl, hG2⟩)
    first | exact HE2.out _ (g0.t hG2) | exact HE2.out _ ((g0.t hG2).a _) | trace_state
end Go.Proofs.YtnkmcoljijmgpaaGreat
