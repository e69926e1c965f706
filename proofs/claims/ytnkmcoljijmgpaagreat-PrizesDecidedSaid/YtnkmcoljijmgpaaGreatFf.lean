import Derived.Test.YtnkmcoljijmgpaaGreatFe
import Derived.Test.YtnkmcoljijmgpaaGreatDa
set_option linter.unusedSimpArgs false
set_option linter.unusedVariables false
namespace Go.Proofs.YtnkmcoljijmgpaaGreat
open Go.RowKit Go.Shelf Go.Sort Go.Maps
attribute [local go_sem] Oper.semAt_some
/-- a copy, whose row of protests lies before all its other rows -/
structure CpIs2 (W : World) (B N : Nat) (r o : Ra) : Prop where
  rr : W.ownsRow (N + 1) 60 5 (.slice o.ra o.racers.length o.rc) o.racers.length (rcV o.racers)
  rp : ∀ y ∈ o.racers, W.ownsRow (N + 1) 3 1 (.slice y.pa y.pools.length y.pc) y.pools.length (iv y.pools)
  pr : W.ownsRow (N + 1) 42 6 (.slice o.pa o.pools.length o.pc) o.pools.length (cv Po.v o.pools)
  pt : ∀ y ∈ o.pools, W.ownsRow (N + 1) 3 1 (.slice y.ta y.table.length y.tc) y.table.length (iv y.table)
  tr : W.ownsRow B 3 1 (.slice o.ta o.protests.length o.tc) o.protests.length (iv o.protests)
  tl : ∀ g, (Value.slice o.ta o.protests.length o.tc).ownBlock = some g → g < N
  bn : B ≤ N
  er : o.racers.map rcP = r.racers.map rcP
  ep : o.pools.map poP = r.pools.map poP
  et : o.protests = r.protests
def CpPost2 (r : Ra) (w : World) (e : Ending) (w' : World) : Prop := G w w' ∧ ∃ N o, e = .returned (.agg o.v) ∧ CpIs2 w' w.heap.size N r o
set_option maxRecDepth 100000 in
set_option maxHeartbeats 8000000 in
theorem Copy_ap (r : Ra) (w : World) (h : r.At w) (hn : r.Nil) : Calls Tryz.prog 24 #[.agg r.v] w (CpPost2 r w) := by
  have HP : Hid (∀ N o w', CpIs2 w' w.heap.size N r o → G w w' → CpPost2 r w (.returned (.agg o.v)) w') := fun N o w' a b => ⟨b, N, o, rfl, a⟩
  generalize CpPost2 r w = PP at *
  have hrv : r.v = #[.slice r.ra r.racers.length r.rc, .slice r.pa r.pools.length r.pc, .slice r.ta r.protests.length r.tc] := rfl
  rw [hrv]
  have HAT := Lib.hid h
  have HNI := Lib.hid hn
  have htn := hn.1
  have htl := h.nt
  have HTT := Lib.hid (fun (W : World) (hW : G w W) => (h.keep hW).ts)
  have hnr := h.nr
  have hnp := h.np
  clear h hn hrv
  have g0 : G w (((w.alloc (.cells #[.slice r.ra r.racers.length r.rc, .slice r.pa r.pools.length r.pc, .slice r.ta r.protests.length r.tc] 26)).alloc (.cells #[.slice none 0 0, .slice none 0 0, .slice none 0 0] 26)).alloc (.cells #[] 3)) := (((G.rf _).a _).a _).a _
  have b0 : Blk (((w.alloc (.cells #[.slice r.ra r.racers.length r.rc, .slice r.pa r.pools.length r.pc, .slice r.ta r.protests.length r.tc] 26)).alloc (.cells #[.slice none 0 0, .slice none 0 0, .slice none 0 0] 26)).alloc (.cells #[] 3)) w.heap.size 26 #[.slice r.ra r.racers.length r.rc, .slice r.pa r.pools.length r.pc, .slice r.ta r.protests.length r.tc] := ((Blk.new _ _ _).alloc _).alloc _
  have b1 : Blk (((w.alloc (.cells #[.slice r.ra r.racers.length r.rc, .slice r.pa r.pools.length r.pc, .slice r.ta r.protests.length r.tc] 26)).alloc (.cells #[.slice none 0 0, .slice none 0 0, .slice none 0 0] 26)).alloc (.cells #[] 3)) (w.heap.size + 1) 26 #[.slice none 0 0, .slice none 0 0, .slice none 0 0] := (Blk.new1 _ _ _ _).alloc _
  have b2 := own_empty (Blk.new2 w (.cells #[.slice r.ra r.racers.length r.rc, .slice r.pa r.pools.length r.pc, .slice r.ta r.protests.length r.tc] 26) (.cells #[.slice none 0 0, .slice none 0 0, .slice none 0 0] 26) 3 #[]) 1
  go_enter Tryz.func24, Tryz.ntmps24
  go_wp2_with (at_builtin; refine wpList_append_ints rfl _ _ rfl (w.heap.size + 1 + 1) _ rfl b2 r.ta r.protests r.tc rfl (HTT.out _ g0) htn htl ?_ ?_)
  · simp only [World.alloc, Array.size_push]
    omega
  intro v1 w1 hown1 hg1
  rw [show (Value.slice (some ⟨w.heap.size + 1 + 1, 0, none⟩) 0 0).ownBlock = some (w.heap.size + 1 + 1) from rfl] at hg1
  replace b0 := b0.grown hg1 (fun e => by injection e with e; omega)
  replace b1 := b1.grown hg1 (fun e => by injection e with e; omega)
  have f1 : Fr (fun _ => False) w w1 := (G.fr g0).grown hg1 (fun g e => .inr (by injection e with e; omega))
  replace g0 : G w w1 := f1.toG (fun _ _ h => h)
  obtain ⟨ka, kc, rfl⟩ := own_slice hown1
  clear f1 hg1 b2
  have m0 := b0.cell 0
  have m1 := b0.cell 1
  have m2 := b0.cell 2
  have l0 := b0.lt
  go_upto_region 2 with fail
  have g1 : G w (w1.alloc (.cells #[.slice none 0 0, .slice none 0 0, .slice ka r.protests.length kc] 26)) := g0.a _
  have b01 := b0.alloc (.cells #[.slice none 0 0, .slice none 0 0, .slice ka r.protests.length kc] 26)
  have b11 := b1.alloc (.cells #[.slice none 0 0, .slice none 0 0, .slice ka r.protests.length kc] 26)
  have bN : Blk (w1.alloc (.cells #[.slice none 0 0, .slice none 0 0, .slice ka r.protests.length kc] 26)) w1.heap.size 26 #[.slice none 0 0, .slice none 0 0, .slice ka r.protests.length kc] := Blk.new _ _ _
  have HT1 := Lib.hid (own_G hown1 ((G.rf w1).a (.cells #[.slice none 0 0, .slice none 0 0, .slice ka r.protests.length kc] 26)))
  have hs1 : (w1.alloc (.cells #[.slice none 0 0, .slice none 0 0, .slice ka r.protests.length kc] 26)).heap.size = w1.heap.size + 1 := World.size_alloc _ _
  have hw1 : w.heap.size + 1 < w1.heap.size := b1.lt
  have HTL := Lib.hid (fun g hg => (hown1.lt g hg).2)
  clear m0 m1 m2 l0 hown1 b0 b1 g0
  obtain ⟨N, hN⟩ : ∃ N, N = w1.heap.size := ⟨_, rfl⟩
  change Code.wp _ _ _ _ (w1.alloc (.cells #[.slice none 0 0, .slice none 0 0, .slice ka r.protests.length kc] 26))
  rw [← hN] at bN hs1 hw1 HTL ⊢
  clear hN
  generalize w1.alloc (.cells #[.slice none 0 0, .slice none 0 0, .slice ka r.protests.length kc] 26) = W1 at *
  have HS1 := Lib.hid hs1
  have HB0 := Lib.hid b01
  have HB1 := Lib.hid b11
  clear hs1
  have hrow := HAT.out.rs.row
  have HROW := Lib.hid hrow
  clear hrow b01 b11
  go_wp2_with fail
  go_loopw [4] (fun i wr => ∃ (k : Nat) (v : Value) (L : List Rc), k ≤ r.racers.length ∧ i = .int .i64 k ∧ Hid (Blk wr N 26 #[v, .slice none 0 0, .slice ka r.protests.length kc]) ∧ Hid (CrAt wr (N + 1) v L) ∧ Hid (L.map rcP = (r.racers.take k).map rcP) ∧ L.length ≤ k ∧ Hid (wr.ownsRow (w.heap.size + 1 + 1) 3 1 (.slice ka r.protests.length kc) r.protests.length (iv r.protests)) ∧ Hid (Fr (fun i => i = N) W1 wr)) (fun i _ => r.racers.length - (intOf i).toNat)
  case atStart => exact ⟨0, .slice none 0 0, [], Nat.zero_le _, rfl, bN, ⟨World.ownsRow_nil _ _ _ _, fun y hy => by simp at hy⟩, by simp [Hid], Nat.le_refl _, HT1, Fr.rf _ _⟩
  case round =>
    clear bN
    obtain ⟨k, v, L, hk, rfl, HBN, HCA, HLL, hLk, HTR, HFR⟩ := hrel
    obtain ⟨wo, rfl⟩ : ∃ wo, wo = wr := ⟨_, rfl⟩
    have gwo : G w wo := ((G.fr (R := fun _ => False) g1).t2 HFR.out (fun i hi e => by omega)).toG (fun _ _ h => h)
    have hszo : N + 1 ≤ wo.heap.size := by have := HFR.out.size; have := HS1.out; omega
    have bo := HFR.out.blk HB0.out (by omega)
    have m0 := bo.cell 0
    have l0 := bo.lt
    by_cases hlt : k < r.racers.length
    · have hki : (k : Int) < r.racers.length := by omega
      have hrow2 := HROW.out.below gwo
      rcases hrow2 with hx | ⟨gr, ofr, hre, hgr, hcell⟩
      · omega
      rw [hre] at m0
      have m0' : wo.cell? ⟨w.heap.size, 0, none⟩ = some (.slice (some ⟨gr, ofr, none⟩) r.racers.length r.rc) := m0
      have hcl := hcell k hlt
      have hyi := (HAT.out.keep gwo).rs.pools k hlt
      have hyn := HNI.out.2.1 k hlt
      have hyl := HAT.out.nq k hlt
      have HTK := Lib.hid (show (r.racers.take (k + 1)).map rcP = (r.racers.take k).map rcP ++ [rcP (r.racers.getD k default)] by
        rw [List.take_add_one, List.getElem?_eq_getElem hlt, List.map_append, List.getD_eq_getElem?_getD, List.getElem?_eq_getElem hlt]
        rfl)
      obtain ⟨y, hy⟩ : ∃ y, y = r.racers.getD k default := ⟨_, rfl⟩
      rw [← hy] at hcl hyi hyn hyl HTK
      clear hy hcell m0 hre
      obtain ⟨zbird, zowner, zrank, zday, zpa, zpc, zpools⟩ := y
      unfold Rc.v at hcl
      dsimp only at hyi hyn hyl
      have HYI := Lib.hid hyi
      have HYN := Lib.hid hyn
      have q0 : wo.cell? ⟨gr, ofr + k * 5, none⟩ = some (.int .i64 zbird) := hcl 0 (by omega)
      have q1 : wo.cell? ⟨gr, ofr + k * 5 + 1, none⟩ = some (.int .i64 zowner) := hcl 1 (by omega)
      have q2 : wo.cell? ⟨gr, ofr + k * 5 + 2, none⟩ = some (.int .i64 zrank) := hcl 2 (by omega)
      have q3 : wo.cell? ⟨gr, ofr + k * 5 + 3, none⟩ = some (.int .i64 zday) := hcl 3 (by omega)
      have q4 : wo.cell? ⟨gr, ofr + k * 5 + 4, none⟩ = some (.slice zpa zpools.length zpc) := hcl 4 (by omega)
      clear hcl hyi hyn
      go_upto_region 6 with fail
      have ga : G wo (wo.alloc (.cells #[.int .i64 zbird, .int .i64 zowner, .int .i64 zrank, .int .i64 zday, .slice zpa zpools.length zpc] 60)) := (G.rf wo).a _
      have bx : Blk (wo.alloc (.cells #[.int .i64 zbird, .int .i64 zowner, .int .i64 zrank, .int .i64 zday, .slice zpa zpools.length zpc] 60)) wo.heap.size 60 #[.int .i64 zbird, .int .i64 zowner, .int .i64 zrank, .int .i64 zday, .slice zpa zpools.length zpc] := Blk.new _ _ _
      clear q0 q1 q2 q3 q4 m0' l0 hgr
      obtain ⟨gx, hgx2⟩ : ∃ gx, gx = wo.heap.size := ⟨_, rfl⟩
      change Code.wp _ _ _ _ (wo.alloc (.cells #[.int .i64 zbird, .int .i64 zowner, .int .i64 zrank, .int .i64 zday, .slice zpa zpools.length zpc] 60))
      rw [← hgx2] at bx ⊢
      have hgx3 : wo.heap.size ≤ gx := Nat.le_of_eq hgx2.symm
      have hs4 : (wo.alloc (.cells #[.int .i64 zbird, .int .i64 zowner, .int .i64 zrank, .int .i64 zday, .slice zpa zpools.length zpc] 60)).heap.size = gx + 1 := by rw [hgx2, World.size_alloc]
      clear hgx2
      generalize wo.alloc (.cells #[.int .i64 zbird, .int .i64 zowner, .int .i64 zrank, .int .i64 zday, .slice zpa zpools.length zpc] 60) = w4 at *
      have n4 := bx.cell 4
      have ln := bx.lt
      have hE : (w4.alloc (.cells #[] 3)).ownsRow w4.heap.size 3 1 (.slice (some ⟨w4.heap.size, 0, none⟩) 0 0) 0 [] := own_empty (Blk.new w4 3 #[]) 1
      have HS4 := Lib.hid hs4
      clear hs4
      go_wp2_with (at_builtin; refine wpList_append_ints rfl _ _ rfl w4.heap.size _ rfl hE zpa zpools zpc rfl (HYI.out.below (ga.a _)) HYN.out hyl ?hb6 ?hr6)
      case hb6 => simp only [World.alloc, Array.size_push]; omega
      case hr6 =>
        intro v5 w5 hown5 hg5
        rw [show (Value.slice (some ⟨w4.heap.size, 0, none⟩) 0 0).ownBlock = some w4.heap.size from rfl] at hg5
        have bx5 := (bx.alloc (.cells #[] 3)).grown hg5 (fun e => by injection e with e; omega)
        have f5 : Fr (fun _ => False) w4 w5 := ((G.rf w4).a (.cells #[] 3)).fr.grown hg5 (fun g e => .inr (by injection e with e; omega))
        have g45 : G w4 w5 := f5.toG (fun _ _ h => h)
        obtain ⟨na, nc, rfl⟩ := own_slice hown5
        have hw4 : gx < w4.heap.size := ln
        clear n4 ln f5 hg5 hE
        have n4 := bx5.cell 4
        have z4 := bx5.frozen 4
        have ln := bx5.lt
        go_upto_region 7 with fail
        have g6 : G wo (w5.setCell ⟨gx, 4, none⟩ (.slice na zpools.length nc)) := (ga.t g45).s (p := ⟨gx, 4, none⟩) hgx3 _
        have bx6 : Blk (w5.setCell ⟨gx, 4, none⟩ (.slice na zpools.length nc)) gx 60 #[.int .i64 zbird, .int .i64 zowner, .int .i64 zrank, .int .i64 zday, .slice na zpools.length nc] := by
          have b := bx5.set_ 4 (.slice na zpools.length nc)
          simp only [List.setIfInBounds_toArray, List.set_cons_zero, List.set_cons_succ] at b
          exact b
        have HW6 := Lib.hid (own_weaken (hown5.kept (grownBy_set _ ⟨gx, 4, none⟩ (.slice na zpools.length nc)) (.inr (own_ne hown5 bx5 (by decide)).symm)) (base' := N + 1) (by omega))
        clear n4 z4 ln bx5 g45 hown5 bx
        generalize w5.setCell ⟨gx, 4, none⟩ (.slice na zpools.length nc) = w6 at *
        have HC6 := Lib.hid (HCA.out.keep g6)
        have HB6 := Lib.hid (HBN.out.keep g6)
        have HT6 := Lib.hid (own_G HTR.out g6)
        have m0 := HB6.out.cell 0
        have l0 := HB6.out.lt
        have n0 := bx6.cell 0
        have n1 := bx6.cell 1
        have n2 := bx6.cell 2
        have n3 := bx6.cell 3
        have n4 := bx6.cell 4
        have ln := bx6.lt
        have hgx4 : N + 1 ≤ w6.heap.size := by have := g6.size; omega
        have HGX := Lib.hid hgx4
        clear hgx4
        obtain ⟨i0, hi0, hz0, hz1, hz2⟩ := info_parts info60
        go_wp2_with (at_builtin; refine wpList_append_own _ rfl _ _ 22 rfl (N + 1) 60 i0 (.agg #[.int .i64 0, .int .i64 0, .int .i64 0, .int .i64 0, .slice none 0 0]) 5 56 Tryz.underlying22 hi0 hz0 hz1 hz2 rfl (by decide) _ L.length (rcV L) rfl ?hown ⟨_, 0, none⟩ 1 1 [.int .i64 zbird, .int .i64 zowner, .int .i64 zrank, .int .i64 zday, .slice na zpools.length nc] rfl rfl (cell_new5 _ _ _) (by simp [Value.oneCell']) (by unfold maxLen; omega) (by omega) ?hbase ?hrest)
        case hown => exact own_G HC6.out.1 ((G.rf _).a _)
        case hbase => have := HGX.out; simp only [World.alloc, Array.size_push]; omega
        case hrest =>
          intro v9 w9 hown9 hg9 _
          obtain ⟨va9, vc9, rfl⟩ := own_slice hown9
          have ga9 : G w6 (w6.alloc (.cells #[.int .i64 zbird, .int .i64 zowner, .int .i64 zrank, .int .i64 zday, .slice na zpools.length nc] 60)) := (G.rf w6).a _
          have ho3 := own_G HC6.out.1 ga9
          have HB9 := Lib.hid ((HB6.out.keep ga9).grown hg9 (own_ne ho3 (HB6.out.keep ga9) (by decide)))
          have HF9 := Lib.hid ((HFR.out.g (g6.t ga9)).grown hg9 (fun g hg => .inr (by have := own_ge ho3 g hg; have := HS1.out; omega)))
          have HK9 : Hid (∀ B v n xs, w6.ownsRow B 3 1 v n xs → w9.ownsRow B 3 1 v n xs) := fun B v n xs hb => (own_G hb ga9).kept hg9 (own_own (own_G hb ga9) ho3 (by decide))
          have HN9 := Lib.hid hown9
          clear hown9 hg9 ho3 n0 n1 n2 n3 n4 ln m0 l0
          have m0 := HB9.out.cell 0
          have lf := HB9.out.lt
          have fz := HB9.out.frozen 0
          go_wp2
          go_roundw
          case rel =>
            have hst : ∀ B v n xs, w9.ownsRow B 3 1 v n xs → (w9.setCell ⟨N, 0, none⟩ (.slice va9 (L.length + 1) vc9)).ownsRow B 3 1 v n xs := fun B v n xs hb => hb.kept (grownBy_set _ _ _) (.inr (own_ne hb HB9.out (by decide)).symm)
            exact ⟨k + 1, .slice va9 (L.length + 1) vc9, L ++ [⟨zbird, zowner, zrank, zday, na, nc, zpools⟩], by omega, by go_num, by
              have b := HB9.out.set_ 0 (.slice va9 (L.length + 1) vc9)
              simp only [List.setIfInBounds_toArray, List.set_cons_zero, List.set_cons_succ] at b
              exact b, ⟨by
              rw [List.length_append, rcV_snoc]
              exact HN9.out.kept (grownBy_set _ _ _) (.inr (own_ne HN9.out HB9.out (by decide)).symm), fun y hy => by
              rcases List.mem_append.1 hy with h | h
              · exact hst _ _ _ _ (HK9.out _ _ _ _ (HC6.out.2 y h))
              · obtain rfl : y = _ := List.mem_singleton.1 h
                exact hst _ _ _ _ (HK9.out _ _ _ _ HW6.out)⟩, by
              show _ = _
              rw [HTK.out, List.map_append, HLL.out]
              rfl, by rw [List.length_append]; exact Nat.add_le_add hLk (Nat.le_refl 1), hst _ _ _ _ (HK9.out _ _ _ _ HT6.out), HF9.out.s (p := ⟨N, 0, none⟩) (.inl rfl) _⟩
          case measure => simp [intOf] <;> omega
    · obtain rfl : k = r.racers.length := by omega
      have hki : ¬ ((r.racers.length : Nat) : Int) < r.racers.length := by omega
      have hLL : L.map rcP = r.racers.map rcP := by have := HLL.out; rwa [List.take_length] at this
      have HLE := Lib.hid hLL
      obtain ⟨ra, rc, rfl⟩ := own_slice HCA.out.1
      have HB1o := Lib.hid (HFR.out.blk HB1.out (by omega))
      have HB0o := Lib.hid bo
      have hmN : wo.cell? ⟨N, 0, none⟩ = some (.slice ra L.length rc) := HBN.out.cell 0
      clear hLL HLL hmN
      go_wp2_with fail
      clear m0 l0 bo
      go_loopw [6] (fun i wr => ∃ (k : Nat) (v : Value) (M : List Po), k ≤ r.pools.length ∧ i = .int .i64 k ∧ Hid (Blk wr N 26 #[.slice ra L.length rc, v, .slice ka r.protests.length kc]) ∧ Hid (CoAt wr (N + 1) v M) ∧ Hid (M.map poP = (r.pools.take k).map poP) ∧ M.length ≤ k ∧ Hid (wr.ownsRow (w.heap.size + 1 + 1) 3 1 (.slice ka r.protests.length kc) r.protests.length (iv r.protests) ∧ CrAt wr (N + 1) (.slice ra L.length rc) L) ∧ Hid (Fr (fun i => i = N) W1 wr)) (fun i _ => r.pools.length - (intOf i).toNat)
      case atStart => exact ⟨0, .slice none 0 0, [], Nat.zero_le _, rfl, HBN.out, ⟨World.ownsRow_nil _ _ _ _, fun y hy => by simp at hy⟩, by simp [Hid], Nat.le_refl _, ⟨HTR.out, HCA.out⟩, HFR.out⟩
      case round =>
        obtain ⟨k, v, M, hk2, rfl, HBM, HCO, HMM, hMk, HKS, HFS⟩ := hrel
        obtain ⟨wu, rfl⟩ : ∃ wu, wu = wr := ⟨_, rfl⟩
        have gwu : G w wu := ((G.fr (R := fun _ => False) g1).t2 HFS.out (fun i hi e => by omega)).toG (fun _ _ h => h)
        have hszu : N + 1 ≤ wu.heap.size := by have := HFS.out.size; have := HS1.out; omega
        have bu := HFS.out.blk HB0.out (by omega)
        have m1 := bu.cell 1
        have l0 := bu.lt
        by_cases hlt : k < r.pools.length
        · have hki2 : (k : Int) < r.pools.length := by omega
          have hrow2 := (HAT.out.keep gwu).ps.row
          rcases hrow2 with hx | ⟨gr, ofr, hre, hgr, hcell⟩
          · omega
          rw [hre] at m1
          have m1' : wu.cell? ⟨w.heap.size, 1, none⟩ = some (.slice (some ⟨gr, ofr, none⟩) r.pools.length r.pc) := m1
          have hcl := hcell k hlt
          have hyi := (HAT.out.keep gwu).ps.tables k hlt
          have hyn := HNI.out.2.2 k hlt
          have hyl := HAT.out.nb k hlt
          have HTK := Lib.hid (show (r.pools.take (k + 1)).map poP = (r.pools.take k).map poP ++ [poP (r.pools.getD k default)] by
            rw [List.take_add_one, List.getElem?_eq_getElem hlt, List.map_append, List.getD_eq_getElem?_getD, List.getElem?_eq_getElem hlt]
            rfl)
          obtain ⟨y, hy⟩ : ∃ y, y = r.pools.getD k default := ⟨_, rfl⟩
          rw [← hy] at hcl hyi hyn hyl HTK
          clear hy hcell m1 hre
          obtain ⟨ystake, ycut, ykind, yta, ytc, ytable, yquota, yfirst⟩ := y
          unfold Po.v at hcl
          dsimp only at hyi hyn hyl
          have HYI := Lib.hid hyi
          have HYN := Lib.hid hyn
          have q0 : wu.cell? ⟨gr, ofr + k * 6, none⟩ = some (.int .i64 ystake) := hcl 0 (by omega)
          have q1 : wu.cell? ⟨gr, ofr + k * 6 + 1, none⟩ = some (.int .i64 ycut) := hcl 1 (by omega)
          have q2 : wu.cell? ⟨gr, ofr + k * 6 + 2, none⟩ = some (.int .i64 ykind) := hcl 2 (by omega)
          have q3 : wu.cell? ⟨gr, ofr + k * 6 + 3, none⟩ = some (.slice yta ytable.length ytc) := hcl 3 (by omega)
          have q4 : wu.cell? ⟨gr, ofr + k * 6 + 4, none⟩ = some (.int .i64 yquota) := hcl 4 (by omega)
          have q5 : wu.cell? ⟨gr, ofr + k * 6 + 5, none⟩ = some (.bool yfirst) := hcl 5 (by omega)
          clear hcl hyi hyn
          go_upto_region 12 with fail
          have ga : G wu (wu.alloc (.cells #[.int .i64 ystake, .int .i64 ycut, .int .i64 ykind, .slice yta ytable.length ytc, .int .i64 yquota, .bool yfirst] 42)) := (G.rf wu).a _
          have bx : Blk (wu.alloc (.cells #[.int .i64 ystake, .int .i64 ycut, .int .i64 ykind, .slice yta ytable.length ytc, .int .i64 yquota, .bool yfirst] 42)) wu.heap.size 42 #[.int .i64 ystake, .int .i64 ycut, .int .i64 ykind, .slice yta ytable.length ytc, .int .i64 yquota, .bool yfirst] := Blk.new _ _ _
          clear q0 q1 q2 q3 q4 q5 m1' l0 hgr
          obtain ⟨gx, hgx2⟩ : ∃ gx, gx = wu.heap.size := ⟨_, rfl⟩
          change Code.wp _ _ _ _ (wu.alloc (.cells #[.int .i64 ystake, .int .i64 ycut, .int .i64 ykind, .slice yta ytable.length ytc, .int .i64 yquota, .bool yfirst] 42))
          rw [← hgx2] at bx ⊢
          have hgx3 : wu.heap.size ≤ gx := Nat.le_of_eq hgx2.symm
          clear hgx2
          generalize wu.alloc (.cells #[.int .i64 ystake, .int .i64 ycut, .int .i64 ykind, .slice yta ytable.length ytc, .int .i64 yquota, .bool yfirst] 42) = w4 at *
          have n3 := bx.cell 3
          have ln := bx.lt
          have hE : (w4.alloc (.cells #[] 3)).ownsRow w4.heap.size 3 1 (.slice (some ⟨w4.heap.size, 0, none⟩) 0 0) 0 [] := own_empty (Blk.new w4 3 #[]) 1
          go_wp2_with (at_builtin; refine wpList_append_ints rfl _ _ rfl w4.heap.size _ rfl hE yta ytable ytc rfl (HYI.out.below (ga.a _)) HYN.out hyl ?hb6 ?hr6)
          case hb6 => simp only [World.alloc, Array.size_push]; omega
          case hr6 =>
            intro v5 w5 hown5 hg5
            rw [show (Value.slice (some ⟨w4.heap.size, 0, none⟩) 0 0).ownBlock = some w4.heap.size from rfl] at hg5
            have bx5 := (bx.alloc (.cells #[] 3)).grown hg5 (fun e => by injection e with e; omega)
            have f5 : Fr (fun _ => False) w4 w5 := ((G.rf w4).a (.cells #[] 3)).fr.grown hg5 (fun g e => .inr (by injection e with e; omega))
            have g45 : G w4 w5 := f5.toG (fun _ _ h => h)
            obtain ⟨na, nc, rfl⟩ := own_slice hown5
            have hw4 : gx < w4.heap.size := ln
            clear n3 ln f5 hg5 hE
            have n3 := bx5.cell 3
            have z3 := bx5.frozen 3
            have ln := bx5.lt
            go_upto_region 13 with fail
            have g6 : G wu (w5.setCell ⟨gx, 3, none⟩ (.slice na ytable.length nc)) := (ga.t g45).s (p := ⟨gx, 3, none⟩) hgx3 _
            have bx6 : Blk (w5.setCell ⟨gx, 3, none⟩ (.slice na ytable.length nc)) gx 42 #[.int .i64 ystake, .int .i64 ycut, .int .i64 ykind, .slice na ytable.length nc, .int .i64 yquota, .bool yfirst] := by
              have b := bx5.set_ 3 (.slice na ytable.length nc)
              simp only [List.setIfInBounds_toArray, List.set_cons_zero, List.set_cons_succ] at b
              exact b
            have HW6 := Lib.hid (own_weaken (hown5.kept (grownBy_set _ ⟨gx, 3, none⟩ (.slice na ytable.length nc)) (.inr (own_ne hown5 bx5 (by decide)).symm)) (base' := N + 1) (by omega))
            clear n3 z3 ln bx5 g45 hown5 bx
            generalize w5.setCell ⟨gx, 3, none⟩ (.slice na ytable.length nc) = w6 at *
            have HC6 := Lib.hid (HCO.out.keep g6)
            have HB6 := Lib.hid (HBM.out.keep g6)
            have HT6 := Lib.hid (And.intro (own_G HKS.out.1 g6) (HKS.out.2.keep g6))
            have m1 := HB6.out.cell 1
            have l0 := HB6.out.lt
            have n0 := bx6.cell 0
            have n1 := bx6.cell 1
            have n2 := bx6.cell 2
            have n3 := bx6.cell 3
            have n4 := bx6.cell 4
            have n5 := bx6.cell 5
            have ln := bx6.lt
            have hgx4 : N + 1 ≤ w6.heap.size := by have := g6.size; omega
            have HGX := Lib.hid hgx4
            clear hgx4
            obtain ⟨i0, hi0, hz0, hz1, hz2⟩ := info_parts info42
            go_wp2_with (at_builtin; refine wpList_append_own _ rfl _ _ 23 rfl (N + 1) 42 i0 (.agg #[.int .i64 0, .int .i64 0, .int .i64 0, .slice none 0 0, .int .i64 0, .bool false]) 6 64 Tryz.underlying23 hi0 hz0 hz1 hz2 rfl (by decide) _ M.length (cv Po.v M) rfl ?hown ⟨_, 0, none⟩ 1 1 [.int .i64 ystake, .int .i64 ycut, .int .i64 ykind, .slice na ytable.length nc, .int .i64 yquota, .bool yfirst] rfl rfl (cell_new5 _ _ _) (by simp [Value.oneCell']) (by unfold maxLen; omega) (by omega) ?hbase ?hrest)
            case hown => exact own_G HC6.out.1 ((G.rf _).a _)
            case hbase => have := HGX.out; simp only [World.alloc, Array.size_push]; omega
            case hrest =>
              intro v9 w9 hown9 hg9 _
              obtain ⟨va9, vc9, rfl⟩ := own_slice hown9
              have ga9 : G w6 (w6.alloc (.cells #[.int .i64 ystake, .int .i64 ycut, .int .i64 ykind, .slice na ytable.length nc, .int .i64 yquota, .bool yfirst] 42)) := (G.rf w6).a _
              have ho3 := own_G HC6.out.1 ga9
              have HB9 := Lib.hid ((HB6.out.keep ga9).grown hg9 (own_ne ho3 (HB6.out.keep ga9) (by decide)))
              have HF9 := Lib.hid ((HFS.out.g (g6.t ga9)).grown hg9 (fun g hg => .inr (by have := own_ge ho3 g hg; have := HS1.out; omega)))
              have HK9 : Hid (∀ T z B v n xs, T ≠ 42 → w6.ownsRow B T z v n xs → w9.ownsRow B T z v n xs) := fun T z B v n xs hT hb => (own_G hb ga9).kept hg9 (own_own (own_G hb ga9) ho3 hT)
              have HN9 := Lib.hid hown9
              clear hown9 hg9 ho3 n0 n1 n2 n3 n4 n5 ln m1 l0
              have m1 := HB9.out.cell 1
              have lf := HB9.out.lt
              have fz := HB9.out.frozen 1
              go_wp2
              go_roundw
              case rel =>
                have hst : ∀ T z B v n xs, (26 : Nat) ≠ T → w9.ownsRow B T z v n xs → (w9.setCell ⟨N, 1, none⟩ (.slice va9 (M.length + 1) vc9)).ownsRow B T z v n xs := fun T z B v n xs hT hb => hb.kept (grownBy_set _ _ _) (.inr (own_ne hb HB9.out hT).symm)
                exact ⟨k + 1, .slice va9 (M.length + 1) vc9, M ++ [⟨ystake, ycut, ykind, na, nc, ytable, yquota, yfirst⟩], by omega, by go_num, by
                  have b := HB9.out.set_ 1 (.slice va9 (M.length + 1) vc9)
                  simp only [List.setIfInBounds_toArray, List.set_cons_zero, List.set_cons_succ] at b
                  exact b, ⟨by
                  rw [List.length_append, cv_snoc]
                  exact HN9.out.kept (grownBy_set _ _ _) (.inr (own_ne HN9.out HB9.out (by decide)).symm), fun y hy => by
                  rcases List.mem_append.1 hy with h | h
                  · exact hst _ _ _ _ _ _ (by decide) (HK9.out _ _ _ _ _ _ (by decide) (HC6.out.2 y h))
                  · obtain rfl : y = _ := List.mem_singleton.1 h
                    exact hst _ _ _ _ _ _ (by decide) (HK9.out _ _ _ _ _ _ (by decide) HW6.out)⟩, by
                  show _ = _
                  rw [HTK.out, List.map_append, HMM.out]
                  rfl, by rw [List.length_append]; exact Nat.add_le_add hMk (Nat.le_refl 1), ⟨hst _ _ _ _ _ _ (by decide) (HK9.out _ _ _ _ _ _ (by decide) HT6.out.1), hst _ _ _ _ _ _ (by decide) (HK9.out _ _ _ _ _ _ (by decide) HT6.out.2.1), fun y hy => hst _ _ _ _ _ _ (by decide) (HK9.out _ _ _ _ _ _ (by decide) (HT6.out.2.2 y hy))⟩, HF9.out.s (p := ⟨N, 1, none⟩) (.inl rfl) _⟩
              case measure => simp [intOf] <;> omega
        · obtain rfl : k = r.pools.length := by omega
          have hki2 : ¬ ((r.pools.length : Nat) : Int) < r.pools.length := by omega
          have hMM : M.map poP = r.pools.map poP := by have := HMM.out; rwa [List.take_length] at this
          have HME := Lib.hid hMM
          obtain ⟨pa, pc, rfl⟩ := own_slice HCO.out.1
          have bR := HFS.out.blk HB1.out (by omega)
          clear hMM HMM
          have e0 := HBM.out.cell 0
          have e1 := HBM.out.cell 1
          have e2 := HBM.out.cell 2
          have le := HBM.out.lt
          have r0 := bR.cell 0
          have r1 := bR.cell 1
          have r2 := bR.cell 2
          have z0 := bR.frozen 0
          have z1 := bR.frozen 1
          have z2 := bR.frozen 2
          have lr := bR.lt
          go_wp2_with fail
          have hst : ∀ (o : Nat) (u : Value) (cs : Array Value) T z B v n xs (X : World), (26 : Nat) ≠ T → Blk X (w.heap.size + 1) 26 cs → X.ownsRow B T z v n xs → (X.setCell ⟨w.heap.size + 1, o, none⟩ u).ownsRow B T z v n xs := fun o u cs T z B v n xs X hT hX hb => hb.kept (grownBy_set _ _ _) (.inr (own_ne hb hX hT).symm)
          have bR1 := bR.set_ 0 (.slice ra L.length rc)
          have bR2 := bR1.set_ 1 (.slice pa M.length pc)
          have hs3 : ∀ T z B v n xs, (26 : Nat) ≠ T → wu.ownsRow B T z v n xs → (((wu.setCell ⟨w.heap.size + 1, 0, none⟩ (.slice ra L.length rc)).setCell ⟨w.heap.size + 1, 1, none⟩ (.slice pa M.length pc)).setCell ⟨w.heap.size + 1, 2, none⟩ (.slice ka r.protests.length kc)).ownsRow B T z v n xs := fun T z B v n xs hT hb => hst 2 _ _ _ _ _ _ _ _ _ hT bR2 (hst 1 _ _ _ _ _ _ _ _ _ hT bR1 (hst 0 _ _ _ _ _ _ _ _ _ hT bR hb))
          have HF := Lib.hid (HP.out N ⟨ra, rc, L, pa, pc, M, ka, kc, r.protests⟩ (((wu.setCell ⟨w.heap.size + 1, 0, none⟩ (.slice ra L.length rc)).setCell ⟨w.heap.size + 1, 1, none⟩ (.slice pa M.length pc)).setCell ⟨w.heap.size + 1, 2, none⟩ (.slice ka r.protests.length kc)) ⟨hs3 _ _ _ _ _ _ (by decide) HKS.out.2.1, fun y hy => hs3 _ _ _ _ _ _ (by decide) (HKS.out.2.2 y hy), hs3 _ _ _ _ _ _ (by decide) HCO.out.1, fun y hy => hs3 _ _ _ _ _ _ (by decide) (HCO.out.2 y hy), own_weaken (hs3 _ _ _ _ _ _ (by decide) HKS.out.1) (by omega), HTL.out, by omega, HLE.out, HME.out, rfl⟩ (((gwu.s (p := ⟨w.heap.size + 1, 0, none⟩) (Nat.le_succ _) _).s (p := ⟨w.heap.size + 1, 1, none⟩) (Nat.le_succ _) _).s (p := ⟨w.heap.size + 1, 2, none⟩) (Nat.le_succ _) _))
          have bR3 := bR2.set_ 2 (.slice ka r.protests.length kc)
          simp only [List.setIfInBounds_toArray, List.set_cons_zero, List.set_cons_succ] at bR3
          clear hst hs3 bR1 bR2
          refine bodyPost_ret (res24 _ _ (w.heap.size + 1) _ _ _ _ _ _ _ _ _ rfl bR3) rfl ?_
          exact HF.out
end Go.Proofs.YtnkmcoljijmgpaaGreat
