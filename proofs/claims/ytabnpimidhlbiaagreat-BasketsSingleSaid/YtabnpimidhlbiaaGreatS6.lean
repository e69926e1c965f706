import Derived.Below
import Derived.BigQuiet
import Derived.Deep.AppendLies
import Derived.Deep.Draws
import Derived.Deep.QuietTactic
import Derived.Deep.RegionHeld
import Derived.Deep.Slices
import Derived.Ground.Names2Prog
import Derived.Ground.SlsfProg
import Derived.Ground.SlsoProg
import Derived.IntWalk
import Derived.Laws.AppendOwn
import Derived.Laws.AppendOwnNone
import Derived.Laws.OwnMore
import Derived.Laws.Rows
import Derived.Laws.StructEq
import Derived.Lib.Hide
import Derived.Lib.SlKeysI
import Derived.Lib.SliceRun
import Derived.Lib.SmallJoins
import Derived.LoopIn
import Derived.LoopNIn
import Derived.Maps.OwnSet
import Derived.Maps.Views
import Derived.OpenShut
import Derived.OrdersHeld
import Derived.OrdersIn
import Derived.Outline
import Derived.OwnWalkIn
import Derived.ProofKit
import Derived.RangeFuncBound
import Derived.RangeFuncCalls
import Derived.RangeFuncLeaves
import Derived.RangeFuncNested
import Derived.Shelf.Abstract
import Derived.Shelf.GgSortFunc.InsertionK
import Derived.Shelf.RegionOpen
import Derived.Shelf.SlSortCmp.NoneTotal
import Derived.Shelf.SlSortCmp.WholeK
import Derived.Shelf.SlSorted.Search
import Derived.Shelf.Slices.Cells
import Derived.Shelf.Slices.CompactI
import Derived.Shelf.Slices.In.SortNone
import Derived.Shelf.Slices.SearchI
import Derived.Shelf.Small.Bits
import Derived.Shelf.Sort.Plain
import Derived.Shelf.Strconv.Itoa0
import Derived.Sort.Grow
import Derived.TacticsIn
import Derived.TacticsInMore
import Derived.Test.YtabnpimidhlbiaaGreatProg
import Derived.WalkKit
import Derived.WalkMore
import Derived.WalkSpells
import Derived.Test.YtabnpimidhlbiaaGreatS5
set_option linter.unusedSimpArgs false
set_option linter.unusedVariables false
namespace Go.Proofs.YtabnpimidhlbiaaGreat
open Go.RowKit Go.Shelf Go.Sort
attribute [local go_sem] Oper.semAt_some
/-- the birds in a basket -/
def insL (past : List Ac) (mi bk : Int) (N : Nat) : List Int := numL (fun b => whr past mi (b : Int) == bk) N
theorem inside1_any {J : Nat} {past : List Ac} {ps : List Pe} {P : Nat → Nat} {pa : Option Addr} {pc : Nat} {qa : Option Addr} {qc : Nat} (mi bk b : Int) (JB MB KB' : Nat) (w : World) (h : JAt w J past ps P pa pc qa qc) (hJ : Blk w JB 71 #[.pointer (some ⟨J, 0, none⟩)]) (hM : Blk w MB 3 #[.int .i64 mi]) (hK : Blk w KB' 3 #[.int .i64 bk]) :
    Calls Tryz.prog 59 #[.int .i64 b, .pointer (some ⟨JB, 0, none⟩), .pointer (some ⟨MB, 0, none⟩), .pointer (some ⟨KB', 0, none⟩)] w fun e w' => e = .returned (.bool (whr past mi b == bk)) ∧ G w w' := by
  have HW := Lib.hid (fun (W : World) (hW : G w W) => where_any past pa pc J mi b W (h.keep hW).c5 (h.keep hW).lt (h.keep hW).ra h.na)
  clear h
  generalize whr past mi b = R at *
  have m0 := hJ.gw 0 rfl
  have m1 := hM.gw 0 rfl
  have m2 := hK.gw 0 rfl
  have l0 := hJ.lt
  have l1 := hM.lt
  have l2 := hK.lt
  clear hJ hM hK
  go_enter Tryz.func59, Tryz.ntmps59
  go_upto_region 1 with fail
  refine wp_region_quiet_G (by kernel_rfl) (by kernel_rfl) ?_
  iterate 3 (quiet_step (fail))
  quiet_step (first | (go_at_call 60; exact Calls.gq (HW.out _ (GW.g _))))
  iterate 3 (quiet_step (fail))
  refine wpQuiet_nil ?_
  intro _ hw'
  obtain ⟨y, rfl⟩ := hw'
  clear m0 m1 m2
  go_wp2_with fail
  first | exact ⟨rfl, y.g⟩ | (go_ret; exact ⟨rfl, y.g⟩)
theorem RowE.set71 {α : Type} [Inhabited α] {v : α → Array Value} {z : Nat} {W : World} {a : Option Addr} {l : List α} {C : Nat} (u : Value) (h : RowE v z W a l) (hz : 0 < z) (hv : ∀ x : α, ∃ n, (v x)[0]? = some (.int .i64 n)) (bC : Blk W C 71 #[.pointer none]) : RowE v z (W.setCell ⟨C, 0, none⟩ u) a l := by
  rcases h with h | ⟨g, off, h1, h2, h3⟩
  · exact .inl h
  · by_cases h0 : l.length = 0
    · exact .inl h0
    · have hgC : g ≠ C := fun e => by
        subst e
        have e1 := h3 0 (by omega) 0 hz
        obtain ⟨n, hn⟩ := hv (l.getD 0 default)
        rw [hn, show off + 0 * z + 0 = off by omega, bC.cell off] at e1
        match off, e1 with
        | 0, e1 => simp at e1
        | k + 1, e1 => simp at e1
      refine .inr ⟨g, off, h1, by simpa [World.setCell] using h2, fun i hi r hr => ?_⟩
      rw [← h3 i hi r hr]
      exact World.cell?_of_block (a := ⟨g, off + i * z + r, none⟩) (Below.heap_setCell W ⟨C, 0, none⟩ u g hgC)
theorem FolAt.set71 {c : Cv} {k : Jn} {W : World} {J m : Nat} {P : Nat → Nat} {pa : Option Addr} {pc : Nat} {qa : Option Addr} {qc C : Nat} (u : Value) (h : FolAt c k W J m P pa pc qa qc) (bC : Blk W C 71 #[.pointer none]) : FolAt c k (W.setCell ⟨C, 0, none⟩ u) J m P pa pc qa qc := by
  have hne : ∀ {g t cs}, Blk W g t cs → t ≠ 71 → g ≠ C := fun hb ht e => by
    subst e
    have e3 := (show W.heap[_]? = _ from hb).symm.trans (show W.heap[_]? = _ from bC)
    simp at e3
    exact ht e3.2
  have bJ := h.bj.far (p := ⟨C, 0, none⟩) (hne h.bj (by decide)) u
  refine ⟨⟨bJ.cell 5, bJ.cell 6, bJ.lt, h.jt.ra.set71 u (by omega) (fun x => ⟨x.id, rfl⟩) bC, ⟨?_, fun i hi => (h.jt.rp.blk i hi).far (p := ⟨C, 0, none⟩) (hne (h.jt.rp.blk i hi) (by decide)) u⟩, h.jt.na, h.jt.np⟩, bJ⟩
  rcases h.jt.rp.row with h1 | ⟨g, off, h1, h2, h3⟩
  · exact .inl h1
  · by_cases h0 : k.ps.length = 0
    · exact .inl h0
    · have hgC : g ≠ C := fun e => by
        subst e
        have e1 := h3 0 (by omega)
        rw [bC.cell (off + 0)] at e1
        match off, e1 with
        | 0, e1 => simp at e1
        | k + 1, e1 => simp at e1
      exact .inr ⟨g, off, h1, by simpa [World.setCell] using h2, fun i hi => (World.cell?_of_block (a := ⟨g, off + i, none⟩) (Below.heap_setCell W ⟨C, 0, none⟩ u g hgC)).trans (h3 i hi)⟩
/-- what Inside answers -/
def InsPost (c : Cv) (mi bk : Int) (w : World) (e : Ending) (w' : World) : Prop :=
  ∃ v l, e = .returned (.tuple #[v, .int .i64 (qErr c (upB mi 9999 && upB bk (c.bks - 1)))]) ∧ w'.ownsRow w.heap.size 3 1 v l.length (iv l) ∧ G w w' ∧
    (qErr c (upB mi 9999 && upB bk (c.bks - 1)) ≠ 0 → l = []) ∧ (qErr c (upB mi 9999 && upB bk (c.bks - 1)) = 0 → ∀ k, folJ c = some k → l = insL k.past mi bk c.bds.toNat)
set_option maxRecDepth 100000 in
set_option maxHeartbeats 8000000 in
theorem Inside_any (c : Cv) (mi bk : Int) (w : World) (h : c.At w) : Calls Tryz.prog 24 #[.agg c.v, .int .i64 mi, .int .i64 bk] w (InsPost c mi bk w) := by
  have HMI := Lib.hid (fun (W : World) => minute_any mi W)
  have HBA := Lib.hid (fun (W : World) => basket_any c bk W h.b1)
  have HQU := Lib.hid (fun (d : Bool) (W : World) (hW : G w W) => question_any c d W (h.keep hW))
  obtain ⟨QE, hQE⟩ : ∃ QE, QE = qErr c (upB mi 9999 && upB bk (c.bks - 1)) := ⟨_, rfl⟩
  have HP1 : Hid (QE ≠ 0 → ∀ w', G w w' → InsPost c mi bk w (.returned (.tuple #[.slice none 0 0, .int .i64 QE])) w') := fun h1 w' hG =>
    ⟨_, [], by rw [hQE], World.ownsRow_nil _ _ _ _, hG, fun _ => rfl, fun e => absurd (hQE.trans e) h1⟩
  have HP2 : Hid (QE = 0 → ∀ k, folJ c = some k → ∀ w' v, w'.ownsRow w.heap.size 3 1 v (insL k.past mi bk c.bds.toNat).length (iv (insL k.past mi bk c.bds.toNat)) → G w w' → InsPost c mi bk w (.returned (.tuple #[v, .int .i64 0])) w') := fun h1 k hk w' v ho hG =>
    ⟨v, _, by rw [← hQE, h1], ho, hG, fun e => absurd (hQE.symm.trans h1) e, fun _ k2 hk2 => by
      have e2 := hk.symm.trans hk2
      cases e2
      rfl⟩
  have HBD : Hid (∀ k : Jn, folJ c = some k → c.bds = ((c.bds.toNat : Nat) : Int) ∧ c.bds.toNat ≤ 12) := fun k hk => by
    have := vcB_act (folJ_some hk).1
    omega
  generalize InsPost c mi bk w = PP at *
  clear h
  obtain ⟨ND, hND⟩ : ∃ ND, ND = c.bds.toNat := ⟨_, rfl⟩
  rw [← hND] at HP2 HBD
  clear hND
  obtain ⟨M, hM⟩ : ∃ M, M = upB mi 9999 := ⟨_, rfl⟩
  obtain ⟨K, hK⟩ : ∃ K, K = upB bk (c.bks - 1) := ⟨_, rfl⟩
  rw [← hM] at HMI hQE
  rw [← hK] at HBA hQE
  clear hM hK
  have HQU2 := Lib.hid (fun (W : World) (hW : G w W) => HQU.out (M && K) W hW)
  unfold QuPost at HQU2
  rw [← hQE] at HQU2
  clear hQE HQU
  obtain ⟨CC, hCC⟩ : ∃ CC, CC = c := ⟨_, rfl⟩
  rw [← hCC] at HP2 HBD
  have HCC := Lib.hid hCC
  clear hCC
  obtain ⟨cbks, cbds, caa, cac, cacts, cda, cdc, cduties, cen⟩ := c
  unfold Cv.v at *
  dsimp only at *
  obtain ⟨g0, b0, b1, b2⟩ := w3_spec6 w #[.int .i64 cbks, .int .i64 cbds, .slice caa cacts.length cac, .slice cda cduties.length cdc, .int .i64 cen] #[.int .i64 mi] #[.int .i64 bk] 25 3 3
  have lw := g0.size
  obtain ⟨W0, hW0⟩ : ∃ W0, W0 = ((w.alloc (.cells #[.int .i64 cbks, .int .i64 cbds, .slice caa cacts.length cac, .slice cda cduties.length cdc, .int .i64 cen] 25)).alloc (.cells #[.int .i64 mi] 3)).alloc (.cells #[.int .i64 bk] 3) := ⟨_, rfl⟩
  rw [← hW0] at g0 b0 b1 b2 lw
  have HW0 := Lib.hid hW0
  clear hW0
  obtain ⟨B0, hB0⟩ : ∃ B0, B0 = w.heap.size := ⟨_, rfl⟩
  rw [← hB0] at b0 b1 b2
  have HB0 := Lib.hid hB0
  clear hB0
  go_enter Tryz.func24, Tryz.ntmps24
  go_upto_region 1 with fail
  change Code.wp _ _ _ _ (((w.alloc (.cells #[.int .i64 cbks, .int .i64 cbds, .slice caa cacts.length cac, .slice cda cduties.length cdc, .int .i64 cen] 25)).alloc (.cells #[.int .i64 mi] 3)).alloc (.cells #[.int .i64 bk] 3))
  rw [← HW0.out, ← HB0.out]
  refine wp_region_Y (S := fun W' => G W0 W') 14 15 rfl (by kernel_rfl) ((G.rf W0).d) (fun hS => ?_)
  have gg : G W0 W0.drew := (G.rf W0).d
  generalize W0.drew = WD at *
  cases M
  · refine wpAnyY_take (i := 0) (v := ?_) rfl (by kernel_rfl) (by kernel_rfl) (by kernel_rfl) (by kernel_rfl) (fun _ _ _ h => h) (Or.inl ⟨by kernel_rfl, ?_⟩) hS ?_
    rotate_left
    · intro w' hSw; have c0 := (b0.keep hSw).cell 0; have c1 := (b0.keep hSw).cell 1; have c2 := (b0.keep hSw).cell 2; have c3 := (b0.keep hSw).cell 3; have c4 := (b0.keep hSw).cell 4; have e0 := (b1.keep hSw).cell 0; have f0 := (b2.keep hSw).cell 0; have l0 := (b0.keep hSw).lt; have l1 := (b1.keep hSw).lt; have l2 := (b2.keep hSw).lt; go_simp; with_reducible rfl
    try simp only [Act.put, zzA, zzB, zzC, zzD, zzE, zzF]
    refine wpAnyY_take (i := 1) (v := ?_) rfl (by kernel_rfl) (by kernel_rfl) (by kernel_rfl) (by kernel_rfl) (fun _ _ _ h => h) (Or.inl ⟨by kernel_rfl, ?_⟩) hS ?_
    rotate_left
    · intro w' hSw; have c0 := (b0.keep hSw).cell 0; have c1 := (b0.keep hSw).cell 1; have c2 := (b0.keep hSw).cell 2; have c3 := (b0.keep hSw).cell 3; have c4 := (b0.keep hSw).cell 4; have e0 := (b1.keep hSw).cell 0; have f0 := (b2.keep hSw).cell 0; have l0 := (b0.keep hSw).lt; have l1 := (b1.keep hSw).lt; have l2 := (b2.keep hSw).lt; go_simp; with_reducible rfl
    try simp only [Act.put, zzA, zzB, zzC, zzD, zzE, zzF]
    refine wpAnyY_twoSW (i := 2) (j := 12) (by kernel_rfl) rfl rfl (by kernel_rfl) (by kernel_rfl) (fun K2 hK2 => ?_) (fun K12 hK12 => ?_)
    · go_simp
      refine (HMI.out _).mono ?_
      rintro e w2 ⟨rfl, hGc⟩
      refine hK2.out _ _ (gg.t hGc) (fun hS => ?_)
      replace gg := gg.t hGc
      clear hK2 hGc
      try simp only [Act.put, zzA, zzB, zzC, zzD, zzE, zzF]
      refine wpAnyY_take (i := 3) (v := ?_) rfl (by kernel_rfl) (by kernel_rfl) (by kernel_rfl) (by kernel_rfl) (fun _ _ _ h => h) (Or.inl ⟨by kernel_rfl, ?_⟩) hS ?_
      rotate_left
      · intro w' hSw; go_simp; with_reducible rfl
      try simp only [Act.put, zzA, zzB, zzC, zzD, zzE, zzF]
      refine wpAnyY_take (i := 4) (v := undef) rfl (by kernel_rfl) (by kernel_rfl) (by kernel_rfl) (by kernel_rfl) (fun _ _ _ h => h) (Or.inr ⟨by kernel_rfl, rfl⟩) hS ?_
      try simp only [Act.put, zzA, zzB, zzC, zzD, zzE, zzF]
      refine wpAnyY_take (i := 5) (v := undef) rfl (by kernel_rfl) (by kernel_rfl) (by kernel_rfl) (by kernel_rfl) (fun _ _ _ h => h) (Or.inr ⟨by kernel_rfl, rfl⟩) hS ?_
      try simp only [Act.put, zzA, zzB, zzC, zzD, zzE, zzF]
      refine wpAnyY_take (i := 6) (v := undef) rfl (by kernel_rfl) (by kernel_rfl) (by kernel_rfl) (by kernel_rfl) (fun _ _ _ h => h) (Or.inr ⟨by kernel_rfl, rfl⟩) hS ?_
      try simp only [Act.put, zzA, zzB, zzC, zzD, zzE, zzF]
      refine wpAnyY_take (i := 7) (v := ?_) rfl (by kernel_rfl) (by kernel_rfl) (by kernel_rfl) (by kernel_rfl) (fun _ _ _ h => h) (Or.inl ⟨by kernel_rfl, ?_⟩) hS ?_
      rotate_left
      · intro w' hSw; go_simp; with_reducible rfl
      try simp only [Act.put, zzA, zzB, zzC, zzD, zzE, zzF]
      refine wpAnyY_twoSW (i := 8) (j := 12) (by kernel_rfl) rfl rfl (by kernel_rfl) (by kernel_rfl) (fun K8 hK8 => ?_) (fun K12 hK12 => ?_)
      · go_simp
        refine (HQU2.out _ (g0.t gg)).mono ?_
        rintro e w8 ⟨hGc, ⟨hne, rfl⟩ | ⟨hq0, hd, k, J, m, P, pa, pc, qa, qc, hk, rfl, hF⟩⟩
        · have HZ := Lib.hid (fun (W : World) (hW : G w W) => HP1.out hne W hW)
          have hneb : ¬ QE = 0 := hne
          clear hne
          refine hK8.out _ _ (gg.t hGc) (fun hS => ?_)
          replace gg := gg.t hGc
          clear hK8 hGc
          try simp only [Act.put, zzA, zzB, zzC, zzD, zzE, zzF]
          refine wpAnyY_take (i := 9) (v := ?_) rfl (by kernel_rfl) (by kernel_rfl) (by kernel_rfl) (by kernel_rfl) (fun _ _ _ h => h) (Or.inl ⟨by kernel_rfl, ?_⟩) hS ?_
          rotate_left
          · intro w' hSw; go_simp; with_reducible rfl
          try simp only [Act.put, zzA, zzB, zzC, zzD, zzE, zzF]
          refine wpAnyY_take (i := 10) (v := ?_) rfl (by kernel_rfl) (by kernel_rfl) (by kernel_rfl) (by kernel_rfl) (fun _ _ _ h => h) (Or.inl ⟨by kernel_rfl, ?_⟩) hS ?_
          rotate_left
          · intro w' hSw; go_simp; with_reducible rfl
          try simp only [Act.put, zzA, zzB, zzC, zzD, zzE, zzF]
          refine wpAnyY_take (i := 11) (v := ?_) rfl (by kernel_rfl) (by kernel_rfl) (by kernel_rfl) (by kernel_rfl) (fun _ _ _ h => h) (Or.inl ⟨by kernel_rfl, ?_⟩) hS ?_
          rotate_left
          · intro w' hSw; go_simp; with_reducible rfl
          try simp only [Act.put, zzA, zzB, zzC, zzD, zzE, zzF]
          refine wpAnyY_oneSW (i := 12) (by kernel_rfl) rfl (by kernel_rfl) (fun K12 hK12 => ?_)
          go_simp
          refine hK12.out _ _ (gg.a _) (fun hS => ?_)
          clear hK12
          try simp only [Act.put, zzA, zzB, zzC, zzD, zzE, zzF]
          have hCw : W0.heap.size ≤ w8.heap.size := gg.size
          have bC := Blk.new w8 71 #[.pointer none]
          replace gg := gg.a (.cells #[.pointer none] 71)
          obtain ⟨C, hC⟩ : ∃ C, C = w8.heap.size := ⟨_, rfl⟩
          rw [← hC] at bC hCw ⊢
          clear hC
          generalize w8.alloc (.cells #[.pointer none] 71) = WC at *
          have cC := bC.cell 0
          have zC := bC.frozen 0
          have lC := bC.lt
          refine wpAnyY_oneSW (i := 13) (by kernel_rfl) rfl (by kernel_rfl) (fun K13 hK13 => ?_)
          go_simp
          refine hK13.out _ _ (gg.s (p := ⟨C, 0, none⟩) hCw _) (fun hS => ?_)
          clear hK13
          try simp only [Act.put, zzA, zzB, zzC, zzD, zzE, zzF]
          refine wpAnyY_oneW (i := 14) (by kernel_rfl) rfl (by kernel_rfl) (by kernel_rfl) (fun K14 hK14 => ?_)
          go_simp
          refine hK14.out _ _ ?_
          clear hK14
          try simp only [Act.put, zzA, zzB, zzC, zzD, zzE, zzF]
          refine wpAnyY_done (by kernel_rfl) ?_ _
          clear hS cC zC lC
          have HZ2 := Lib.hid (HZ.out _ (g0.t (gg.s (p := ⟨C, 0, none⟩) hCw (.pointer none))))
          clear HZ HP1 HP2 HBD HQU2 HMI HBA bC gg hCw
          go_wp2_with fail
          first | exact HZ2.out | (go_ret; exact HZ2.out)
        · simp at hd
      · go_simp
        refine hK12.out _ _ (gg.a _) (fun hS => ?_)
        clear hK12
        try simp only [Act.put, zzA, zzB, zzC, zzD, zzE, zzF]
        have hCw : W0.heap.size ≤ w2.heap.size := gg.size
        have bC := Blk.new w2 71 #[.pointer none]
        replace gg := gg.a (.cells #[.pointer none] 71)
        obtain ⟨C, hC⟩ : ∃ C, C = w2.heap.size := ⟨_, rfl⟩
        rw [← hC] at bC hCw ⊢
        clear hC
        generalize w2.alloc (.cells #[.pointer none] 71) = WC at *
        refine wpAnyY_oneSW (i := 8) (by kernel_rfl) rfl (by kernel_rfl) (fun K8 hK8 => ?_)
        go_simp
        refine (HQU2.out _ (g0.t gg)).mono ?_
        rintro e w8 ⟨hGc, ⟨hne, rfl⟩ | ⟨hq0, hd, k, J, m, P, pa, pc, qa, qc, hk, rfl, hF⟩⟩
        · have HZ := Lib.hid (fun (W : World) (hW : G w W) => HP1.out hne W hW)
          have hneb : ¬ QE = 0 := hne
          clear hne
          refine hK8.out _ _ (gg.t hGc) (fun hS => ?_)
          replace gg := gg.t hGc
          replace bC := bC.keep hGc
          clear hK8 hGc
          try simp only [Act.put, zzA, zzB, zzC, zzD, zzE, zzF]
          refine wpAnyY_take (i := 9) (v := ?_) rfl (by kernel_rfl) (by kernel_rfl) (by kernel_rfl) (by kernel_rfl) (fun _ _ _ h => h) (Or.inl ⟨by kernel_rfl, ?_⟩) hS ?_
          rotate_left
          · intro w' hSw; go_simp; with_reducible rfl
          try simp only [Act.put, zzA, zzB, zzC, zzD, zzE, zzF]
          refine wpAnyY_take (i := 10) (v := ?_) rfl (by kernel_rfl) (by kernel_rfl) (by kernel_rfl) (by kernel_rfl) (fun _ _ _ h => h) (Or.inl ⟨by kernel_rfl, ?_⟩) hS ?_
          rotate_left
          · intro w' hSw; go_simp; with_reducible rfl
          try simp only [Act.put, zzA, zzB, zzC, zzD, zzE, zzF]
          refine wpAnyY_take (i := 11) (v := ?_) rfl (by kernel_rfl) (by kernel_rfl) (by kernel_rfl) (by kernel_rfl) (fun _ _ _ h => h) (Or.inl ⟨by kernel_rfl, ?_⟩) hS ?_
          rotate_left
          · intro w' hSw; go_simp; with_reducible rfl
          try simp only [Act.put, zzA, zzB, zzC, zzD, zzE, zzF]
          have cC := bC.cell 0
          have zC := bC.frozen 0
          have lC := bC.lt
          refine wpAnyY_oneSW (i := 13) (by kernel_rfl) rfl (by kernel_rfl) (fun K13 hK13 => ?_)
          go_simp
          refine hK13.out _ _ (gg.s (p := ⟨C, 0, none⟩) hCw _) (fun hS => ?_)
          clear hK13
          try simp only [Act.put, zzA, zzB, zzC, zzD, zzE, zzF]
          refine wpAnyY_oneW (i := 14) (by kernel_rfl) rfl (by kernel_rfl) (by kernel_rfl) (fun K14 hK14 => ?_)
          go_simp
          refine hK14.out _ _ ?_
          clear hK14
          try simp only [Act.put, zzA, zzB, zzC, zzD, zzE, zzF]
          refine wpAnyY_done (by kernel_rfl) ?_ _
          clear hS cC zC lC
          have HZ2 := Lib.hid (HZ.out _ (g0.t (gg.s (p := ⟨C, 0, none⟩) hCw (.pointer none))))
          clear HZ HP1 HP2 HBD HQU2 HMI HBA bC gg hCw
          go_wp2_with fail
          first | exact HZ2.out | (go_ret; exact HZ2.out)
        · simp at hd
    · go_simp
      refine hK12.out _ _ (gg.a _) (fun hS => ?_)
      clear hK12
      try simp only [Act.put, zzA, zzB, zzC, zzD, zzE, zzF]
      have hCw : W0.heap.size ≤ WD.heap.size := gg.size
      have bC := Blk.new WD 71 #[.pointer none]
      replace gg := gg.a (.cells #[.pointer none] 71)
      obtain ⟨C, hC⟩ : ∃ C, C = WD.heap.size := ⟨_, rfl⟩
      rw [← hC] at bC hCw ⊢
      clear hC
      generalize WD.alloc (.cells #[.pointer none] 71) = WC at *
      refine wpAnyY_oneSW (i := 2) (by kernel_rfl) rfl (by kernel_rfl) (fun K2 hK2 => ?_)
      go_simp
      refine (HMI.out _).mono ?_
      rintro e w2 ⟨rfl, hGc⟩
      refine hK2.out _ _ (gg.t hGc) (fun hS => ?_)
      replace gg := gg.t hGc
      replace bC := bC.keep hGc
      clear hK2 hGc
      try simp only [Act.put, zzA, zzB, zzC, zzD, zzE, zzF]
      refine wpAnyY_take (i := 3) (v := ?_) rfl (by kernel_rfl) (by kernel_rfl) (by kernel_rfl) (by kernel_rfl) (fun _ _ _ h => h) (Or.inl ⟨by kernel_rfl, ?_⟩) hS ?_
      rotate_left
      · intro w' hSw; go_simp; with_reducible rfl
      try simp only [Act.put, zzA, zzB, zzC, zzD, zzE, zzF]
      refine wpAnyY_take (i := 4) (v := undef) rfl (by kernel_rfl) (by kernel_rfl) (by kernel_rfl) (by kernel_rfl) (fun _ _ _ h => h) (Or.inr ⟨by kernel_rfl, rfl⟩) hS ?_
      try simp only [Act.put, zzA, zzB, zzC, zzD, zzE, zzF]
      refine wpAnyY_take (i := 5) (v := undef) rfl (by kernel_rfl) (by kernel_rfl) (by kernel_rfl) (by kernel_rfl) (fun _ _ _ h => h) (Or.inr ⟨by kernel_rfl, rfl⟩) hS ?_
      try simp only [Act.put, zzA, zzB, zzC, zzD, zzE, zzF]
      refine wpAnyY_take (i := 6) (v := undef) rfl (by kernel_rfl) (by kernel_rfl) (by kernel_rfl) (by kernel_rfl) (fun _ _ _ h => h) (Or.inr ⟨by kernel_rfl, rfl⟩) hS ?_
      try simp only [Act.put, zzA, zzB, zzC, zzD, zzE, zzF]
      refine wpAnyY_take (i := 7) (v := ?_) rfl (by kernel_rfl) (by kernel_rfl) (by kernel_rfl) (by kernel_rfl) (fun _ _ _ h => h) (Or.inl ⟨by kernel_rfl, ?_⟩) hS ?_
      rotate_left
      · intro w' hSw; go_simp; with_reducible rfl
      try simp only [Act.put, zzA, zzB, zzC, zzD, zzE, zzF]
      refine wpAnyY_oneSW (i := 8) (by kernel_rfl) rfl (by kernel_rfl) (fun K8 hK8 => ?_)
      go_simp
      refine (HQU2.out _ (g0.t gg)).mono ?_
      rintro e w8 ⟨hGc, ⟨hne, rfl⟩ | ⟨hq0, hd, k, J, m, P, pa, pc, qa, qc, hk, rfl, hF⟩⟩
      · have HZ := Lib.hid (fun (W : World) (hW : G w W) => HP1.out hne W hW)
        have hneb : ¬ QE = 0 := hne
        clear hne
        refine hK8.out _ _ (gg.t hGc) (fun hS => ?_)
        replace gg := gg.t hGc
        replace bC := bC.keep hGc
        clear hK8 hGc
        try simp only [Act.put, zzA, zzB, zzC, zzD, zzE, zzF]
        refine wpAnyY_take (i := 9) (v := ?_) rfl (by kernel_rfl) (by kernel_rfl) (by kernel_rfl) (by kernel_rfl) (fun _ _ _ h => h) (Or.inl ⟨by kernel_rfl, ?_⟩) hS ?_
        rotate_left
        · intro w' hSw; go_simp; with_reducible rfl
        try simp only [Act.put, zzA, zzB, zzC, zzD, zzE, zzF]
        refine wpAnyY_take (i := 10) (v := ?_) rfl (by kernel_rfl) (by kernel_rfl) (by kernel_rfl) (by kernel_rfl) (fun _ _ _ h => h) (Or.inl ⟨by kernel_rfl, ?_⟩) hS ?_
        rotate_left
        · intro w' hSw; go_simp; with_reducible rfl
        try simp only [Act.put, zzA, zzB, zzC, zzD, zzE, zzF]
        refine wpAnyY_take (i := 11) (v := ?_) rfl (by kernel_rfl) (by kernel_rfl) (by kernel_rfl) (by kernel_rfl) (fun _ _ _ h => h) (Or.inl ⟨by kernel_rfl, ?_⟩) hS ?_
        rotate_left
        · intro w' hSw; go_simp; with_reducible rfl
        try simp only [Act.put, zzA, zzB, zzC, zzD, zzE, zzF]
        have cC := bC.cell 0
        have zC := bC.frozen 0
        have lC := bC.lt
        refine wpAnyY_oneSW (i := 13) (by kernel_rfl) rfl (by kernel_rfl) (fun K13 hK13 => ?_)
        go_simp
        refine hK13.out _ _ (gg.s (p := ⟨C, 0, none⟩) hCw _) (fun hS => ?_)
        clear hK13
        try simp only [Act.put, zzA, zzB, zzC, zzD, zzE, zzF]
        refine wpAnyY_oneW (i := 14) (by kernel_rfl) rfl (by kernel_rfl) (by kernel_rfl) (fun K14 hK14 => ?_)
        go_simp
        refine hK14.out _ _ ?_
        clear hK14
        try simp only [Act.put, zzA, zzB, zzC, zzD, zzE, zzF]
        refine wpAnyY_done (by kernel_rfl) ?_ _
        clear hS cC zC lC
        have HZ2 := Lib.hid (HZ.out _ (g0.t (gg.s (p := ⟨C, 0, none⟩) hCw (.pointer none))))
        clear HZ HP1 HP2 HBD HQU2 HMI HBA bC gg hCw
        go_wp2_with fail
        first | exact HZ2.out | (go_ret; exact HZ2.out)
      · simp at hd
  · refine wpAnyY_take (i := 0) (v := ?_) rfl (by kernel_rfl) (by kernel_rfl) (by kernel_rfl) (by kernel_rfl) (fun _ _ _ h => h) (Or.inl ⟨by kernel_rfl, ?_⟩) hS ?_
    rotate_left
    · intro w' hSw; have c0 := (b0.keep hSw).cell 0; have c1 := (b0.keep hSw).cell 1; have c2 := (b0.keep hSw).cell 2; have c3 := (b0.keep hSw).cell 3; have c4 := (b0.keep hSw).cell 4; have e0 := (b1.keep hSw).cell 0; have f0 := (b2.keep hSw).cell 0; have l0 := (b0.keep hSw).lt; have l1 := (b1.keep hSw).lt; have l2 := (b2.keep hSw).lt; go_simp; with_reducible rfl
    try simp only [Act.put, zzA, zzB, zzC, zzD, zzE, zzF]
    refine wpAnyY_take (i := 1) (v := ?_) rfl (by kernel_rfl) (by kernel_rfl) (by kernel_rfl) (by kernel_rfl) (fun _ _ _ h => h) (Or.inl ⟨by kernel_rfl, ?_⟩) hS ?_
    rotate_left
    · intro w' hSw; have c0 := (b0.keep hSw).cell 0; have c1 := (b0.keep hSw).cell 1; have c2 := (b0.keep hSw).cell 2; have c3 := (b0.keep hSw).cell 3; have c4 := (b0.keep hSw).cell 4; have e0 := (b1.keep hSw).cell 0; have f0 := (b2.keep hSw).cell 0; have l0 := (b0.keep hSw).lt; have l1 := (b1.keep hSw).lt; have l2 := (b2.keep hSw).lt; go_simp; with_reducible rfl
    try simp only [Act.put, zzA, zzB, zzC, zzD, zzE, zzF]
    refine wpAnyY_twoSW (i := 2) (j := 12) (by kernel_rfl) rfl rfl (by kernel_rfl) (by kernel_rfl) (fun K2 hK2 => ?_) (fun K12 hK12 => ?_)
    · go_simp
      refine (HMI.out _).mono ?_
      rintro e w2 ⟨rfl, hGc⟩
      refine hK2.out _ _ (gg.t hGc) (fun hS => ?_)
      replace gg := gg.t hGc
      clear hK2 hGc
      try simp only [Act.put, zzA, zzB, zzC, zzD, zzE, zzF]
      refine wpAnyY_take (i := 3) (v := ?_) rfl (by kernel_rfl) (by kernel_rfl) (by kernel_rfl) (by kernel_rfl) (fun _ _ _ h => h) (Or.inl ⟨by kernel_rfl, ?_⟩) hS ?_
      rotate_left
      · intro w' hSw; go_simp; with_reducible rfl
      try simp only [Act.put, zzA, zzB, zzC, zzD, zzE, zzF]
      refine wpAnyY_take (i := 4) (v := ?_) rfl (by kernel_rfl) (by kernel_rfl) (by kernel_rfl) (by kernel_rfl) (fun _ _ _ h => h) (Or.inl ⟨by kernel_rfl, ?_⟩) hS ?_
      rotate_left
      · intro w' hSw; have c0 := (b0.keep hSw).cell 0; have c1 := (b0.keep hSw).cell 1; have c2 := (b0.keep hSw).cell 2; have c3 := (b0.keep hSw).cell 3; have c4 := (b0.keep hSw).cell 4; have e0 := (b1.keep hSw).cell 0; have f0 := (b2.keep hSw).cell 0; have l0 := (b0.keep hSw).lt; have l1 := (b1.keep hSw).lt; have l2 := (b2.keep hSw).lt; go_simp; with_reducible rfl
      try simp only [Act.put, zzA, zzB, zzC, zzD, zzE, zzF]
      refine wpAnyY_take (i := 5) (v := ?_) rfl (by kernel_rfl) (by kernel_rfl) (by kernel_rfl) (by kernel_rfl) (fun _ _ _ h => h) (Or.inl ⟨by kernel_rfl, ?_⟩) hS ?_
      rotate_left
      · intro w' hSw; have c0 := (b0.keep hSw).cell 0; have c1 := (b0.keep hSw).cell 1; have c2 := (b0.keep hSw).cell 2; have c3 := (b0.keep hSw).cell 3; have c4 := (b0.keep hSw).cell 4; have e0 := (b1.keep hSw).cell 0; have f0 := (b2.keep hSw).cell 0; have l0 := (b0.keep hSw).lt; have l1 := (b1.keep hSw).lt; have l2 := (b2.keep hSw).lt; go_simp; with_reducible rfl
      try simp only [Act.put, zzA, zzB, zzC, zzD, zzE, zzF]
      refine wpAnyY_twoSW (i := 6) (j := 12) (by kernel_rfl) rfl rfl (by kernel_rfl) (by kernel_rfl) (fun K6 hK6 => ?_) (fun K12 hK12 => ?_)
      · go_simp
        refine (HBA.out _).mono ?_
        rintro e w6 ⟨rfl, hGc⟩
        refine hK6.out _ _ (gg.t hGc) (fun hS => ?_)
        replace gg := gg.t hGc
        clear hK6 hGc
        try simp only [Act.put, zzA, zzB, zzC, zzD, zzE, zzF]
        refine wpAnyY_take (i := 7) (v := ?_) rfl (by kernel_rfl) (by kernel_rfl) (by kernel_rfl) (by kernel_rfl) (fun _ _ _ h => h) (Or.inl ⟨by kernel_rfl, ?_⟩) hS ?_
        rotate_left
        · intro w' hSw; go_simp; with_reducible rfl
        try simp only [Act.put, zzA, zzB, zzC, zzD, zzE, zzF]
        refine wpAnyY_twoSW (i := 8) (j := 12) (by kernel_rfl) rfl rfl (by kernel_rfl) (by kernel_rfl) (fun K8 hK8 => ?_) (fun K12 hK12 => ?_)
        · go_simp
          refine (HQU2.out _ (g0.t gg)).mono ?_
          rintro e w8 ⟨hGc, ⟨hne, rfl⟩ | ⟨hq0, hd, k, J, m, P, pa, pc, qa, qc, hk, rfl, hF⟩⟩
          · have HZ := Lib.hid (fun (W : World) (hW : G w W) => HP1.out hne W hW)
            have hneb : ¬ QE = 0 := hne
            clear hne
            refine hK8.out _ _ (gg.t hGc) (fun hS => ?_)
            replace gg := gg.t hGc
            clear hK8 hGc
            try simp only [Act.put, zzA, zzB, zzC, zzD, zzE, zzF]
            refine wpAnyY_take (i := 9) (v := ?_) rfl (by kernel_rfl) (by kernel_rfl) (by kernel_rfl) (by kernel_rfl) (fun _ _ _ h => h) (Or.inl ⟨by kernel_rfl, ?_⟩) hS ?_
            rotate_left
            · intro w' hSw; go_simp; with_reducible rfl
            try simp only [Act.put, zzA, zzB, zzC, zzD, zzE, zzF]
            refine wpAnyY_take (i := 10) (v := ?_) rfl (by kernel_rfl) (by kernel_rfl) (by kernel_rfl) (by kernel_rfl) (fun _ _ _ h => h) (Or.inl ⟨by kernel_rfl, ?_⟩) hS ?_
            rotate_left
            · intro w' hSw; go_simp; with_reducible rfl
            try simp only [Act.put, zzA, zzB, zzC, zzD, zzE, zzF]
            refine wpAnyY_take (i := 11) (v := ?_) rfl (by kernel_rfl) (by kernel_rfl) (by kernel_rfl) (by kernel_rfl) (fun _ _ _ h => h) (Or.inl ⟨by kernel_rfl, ?_⟩) hS ?_
            rotate_left
            · intro w' hSw; go_simp; with_reducible rfl
            try simp only [Act.put, zzA, zzB, zzC, zzD, zzE, zzF]
            refine wpAnyY_oneSW (i := 12) (by kernel_rfl) rfl (by kernel_rfl) (fun K12 hK12 => ?_)
            go_simp
            refine hK12.out _ _ (gg.a _) (fun hS => ?_)
            clear hK12
            try simp only [Act.put, zzA, zzB, zzC, zzD, zzE, zzF]
            have hCw : W0.heap.size ≤ w8.heap.size := gg.size
            have bC := Blk.new w8 71 #[.pointer none]
            replace gg := gg.a (.cells #[.pointer none] 71)
            obtain ⟨C, hC⟩ : ∃ C, C = w8.heap.size := ⟨_, rfl⟩
            rw [← hC] at bC hCw ⊢
            clear hC
            generalize w8.alloc (.cells #[.pointer none] 71) = WC at *
            have cC := bC.cell 0
            have zC := bC.frozen 0
            have lC := bC.lt
            refine wpAnyY_oneSW (i := 13) (by kernel_rfl) rfl (by kernel_rfl) (fun K13 hK13 => ?_)
            go_simp
            refine hK13.out _ _ (gg.s (p := ⟨C, 0, none⟩) hCw _) (fun hS => ?_)
            clear hK13
            try simp only [Act.put, zzA, zzB, zzC, zzD, zzE, zzF]
            refine wpAnyY_oneW (i := 14) (by kernel_rfl) rfl (by kernel_rfl) (by kernel_rfl) (fun K14 hK14 => ?_)
            go_simp
            refine hK14.out _ _ ?_
            clear hK14
            try simp only [Act.put, zzA, zzB, zzC, zzD, zzE, zzF]
            refine wpAnyY_done (by kernel_rfl) ?_ _
            clear hS cC zC lC
            have HZ2 := Lib.hid (HZ.out _ (g0.t (gg.s (p := ⟨C, 0, none⟩) hCw (.pointer none))))
            clear HZ HP1 HP2 HBD HQU2 HMI HBA bC gg hCw
            go_wp2_with fail
            first | exact HZ2.out | (go_ret; exact HZ2.out)
          · rw [← HCC.out] at hk hF
            have HF := Lib.hid hF
            have HZ := Lib.hid (HP2.out hq0 k hk)
            obtain ⟨hb1, hb2⟩ := HBD.out k hk
            have HB1 := Lib.hid hb1
            clear hk hF hd hb1 hq0
            refine hK8.out _ _ (gg.t hGc) (fun hS => ?_)
            replace gg := gg.t hGc
            clear hK8 hGc
            try simp only [Act.put, zzA, zzB, zzC, zzD, zzE, zzF]
            refine wpAnyY_take (i := 9) (v := ?_) rfl (by kernel_rfl) (by kernel_rfl) (by kernel_rfl) (by kernel_rfl) (fun _ _ _ h => h) (Or.inl ⟨by kernel_rfl, ?_⟩) hS ?_
            rotate_left
            · intro w' hSw; go_simp; with_reducible rfl
            try simp only [Act.put, zzA, zzB, zzC, zzD, zzE, zzF]
            refine wpAnyY_take (i := 10) (v := ?_) rfl (by kernel_rfl) (by kernel_rfl) (by kernel_rfl) (by kernel_rfl) (fun _ _ _ h => h) (Or.inl ⟨by kernel_rfl, ?_⟩) hS ?_
            rotate_left
            · intro w' hSw; go_simp; with_reducible rfl
            try simp only [Act.put, zzA, zzB, zzC, zzD, zzE, zzF]
            refine wpAnyY_take (i := 11) (v := ?_) rfl (by kernel_rfl) (by kernel_rfl) (by kernel_rfl) (by kernel_rfl) (fun _ _ _ h => h) (Or.inl ⟨by kernel_rfl, ?_⟩) hS ?_
            rotate_left
            · intro w' hSw; go_simp; with_reducible rfl
            try simp only [Act.put, zzA, zzB, zzC, zzD, zzE, zzF]
            refine wpAnyY_oneSW (i := 12) (by kernel_rfl) rfl (by kernel_rfl) (fun K12 hK12 => ?_)
            go_simp
            refine hK12.out _ _ (gg.a _) (fun hS => ?_)
            clear hK12
            try simp only [Act.put, zzA, zzB, zzC, zzD, zzE, zzF]
            have hCw : W0.heap.size ≤ w8.heap.size := gg.size
            have bC := Blk.new w8 71 #[.pointer none]
            replace gg := gg.a (.cells #[.pointer none] 71)
            replace HF := Lib.hid (HF.out.keep ((G.rf w8).a (.cells #[.pointer none] 71)))
            obtain ⟨C, hC⟩ : ∃ C, C = w8.heap.size := ⟨_, rfl⟩
            rw [← hC] at bC hCw ⊢
            clear hC
            generalize w8.alloc (.cells #[.pointer none] 71) = WC at *
            have cC := bC.cell 0
            have zC := bC.frozen 0
            have lC := bC.lt
            refine wpAnyY_oneSW (i := 13) (by kernel_rfl) rfl (by kernel_rfl) (fun K13 hK13 => ?_)
            go_simp
            refine hK13.out _ _ (gg.s (p := ⟨C, 0, none⟩) hCw _) (fun hS => ?_)
            clear hK13
            try simp only [Act.put, zzA, zzB, zzC, zzD, zzE, zzF]
            refine wpAnyY_oneW (i := 14) (by kernel_rfl) rfl (by kernel_rfl) (by kernel_rfl) (fun K14 hK14 => ?_)
            go_simp
            refine hK14.out _ _ ?_
            clear hK14
            try simp only [Act.put, zzA, zzB, zzC, zzD, zzE, zzF]
            refine wpAnyY_done (by kernel_rfl) ?_ _
            clear hS cC zC lC
            have g5 : G W0 (WC.setCell ⟨C, 0, none⟩ (.pointer (some ⟨J, 0, none⟩))) := gg.s (p := ⟨C, 0, none⟩) hCw (.pointer (some ⟨J, 0, none⟩))
            have F5 := Lib.hid (FolAt.set71 (.pointer (some ⟨J, 0, none⟩)) HF.out bC)
            replace bC : Blk (WC.setCell ⟨C, 0, none⟩ (.pointer (some ⟨J, 0, none⟩))) C 71 #[(.pointer (some ⟨J, 0, none⟩))] := bC.set_ 0 (.pointer (some ⟨J, 0, none⟩))
            clear gg HF HP1 HP2 HBD HQU2 HMI HBA
            generalize WC.setCell ⟨C, 0, none⟩ (.pointer (some ⟨J, 0, none⟩)) = W5 at *
            have HN := Lib.hid (numbers_any 59 (enters_of Tryz.func59 (by kernel_rfl) rfl) #[.pointer (some ⟨C, 0, none⟩), .pointer (some ⟨B0 + 1, 0, none⟩), .pointer (some ⟨B0 + 1 + 1, 0, none⟩)] ND (fun b => whr k.past mi (b : Int) == bk) W5 (by omega) (fun W' hW i hi => inside1_any mi bk (i : Int) C (B0 + 1) (B0 + 1 + 1) W' (F5.out.keep hW).jt (bC.keep hW) ((b1.keep g5).keep hW) ((b2.keep g5).keep hW)))
            unfold IvPost at HN
            have b5 := b0.keep g5
            have c1 : W5.cell? ⟨B0, 1, none⟩ = some (.int .i64 (ND : Nat)) := by rw [b5.cell 1]; have e := HB1.out; rw [HCC.out] at e; dsimp only at e; rw [← e]; rfl
            have l0 := b5.lt
            have hsz := Nat.le_trans lw g5.size
            have HG := Lib.hid (g0.t g5)
            clear b5 F5 bC b0 b1 b2 g5
            go_wp2_with (go_at_call 40; refine HN.out.mono ?_; rintro e w9 ⟨v, rfl, ho, hG9⟩; have HO := Lib.hid (own_weaken ho hsz); clear ho)
            first | exact HZ.out _ _ HO.out (HG.out.t hG9) | (go_ret; exact HZ.out _ _ HO.out (HG.out.t hG9))
        · go_simp
          refine hK12.out _ _ (gg.a _) (fun hS => ?_)
          clear hK12
          try simp only [Act.put, zzA, zzB, zzC, zzD, zzE, zzF]
          have hCw : W0.heap.size ≤ w6.heap.size := gg.size
          have bC := Blk.new w6 71 #[.pointer none]
          replace gg := gg.a (.cells #[.pointer none] 71)
          obtain ⟨C, hC⟩ : ∃ C, C = w6.heap.size := ⟨_, rfl⟩
          rw [← hC] at bC hCw ⊢
          clear hC
          generalize w6.alloc (.cells #[.pointer none] 71) = WC at *
          refine wpAnyY_oneSW (i := 8) (by kernel_rfl) rfl (by kernel_rfl) (fun K8 hK8 => ?_)
          go_simp
          refine (HQU2.out _ (g0.t gg)).mono ?_
          rintro e w8 ⟨hGc, ⟨hne, rfl⟩ | ⟨hq0, hd, k, J, m, P, pa, pc, qa, qc, hk, rfl, hF⟩⟩
          · have HZ := Lib.hid (fun (W : World) (hW : G w W) => HP1.out hne W hW)
            have hneb : ¬ QE = 0 := hne
            clear hne
            refine hK8.out _ _ (gg.t hGc) (fun hS => ?_)
            replace gg := gg.t hGc
            replace bC := bC.keep hGc
            clear hK8 hGc
            try simp only [Act.put, zzA, zzB, zzC, zzD, zzE, zzF]
            refine wpAnyY_take (i := 9) (v := ?_) rfl (by kernel_rfl) (by kernel_rfl) (by kernel_rfl) (by kernel_rfl) (fun _ _ _ h => h) (Or.inl ⟨by kernel_rfl, ?_⟩) hS ?_
            rotate_left
            · intro w' hSw; go_simp; with_reducible rfl
            try simp only [Act.put, zzA, zzB, zzC, zzD, zzE, zzF]
            refine wpAnyY_take (i := 10) (v := ?_) rfl (by kernel_rfl) (by kernel_rfl) (by kernel_rfl) (by kernel_rfl) (fun _ _ _ h => h) (Or.inl ⟨by kernel_rfl, ?_⟩) hS ?_
            rotate_left
            · intro w' hSw; go_simp; with_reducible rfl
            try simp only [Act.put, zzA, zzB, zzC, zzD, zzE, zzF]
            refine wpAnyY_take (i := 11) (v := ?_) rfl (by kernel_rfl) (by kernel_rfl) (by kernel_rfl) (by kernel_rfl) (fun _ _ _ h => h) (Or.inl ⟨by kernel_rfl, ?_⟩) hS ?_
            rotate_left
            · intro w' hSw; go_simp; with_reducible rfl
            try simp only [Act.put, zzA, zzB, zzC, zzD, zzE, zzF]
            have cC := bC.cell 0
            have zC := bC.frozen 0
            have lC := bC.lt
            refine wpAnyY_oneSW (i := 13) (by kernel_rfl) rfl (by kernel_rfl) (fun K13 hK13 => ?_)
            go_simp
            refine hK13.out _ _ (gg.s (p := ⟨C, 0, none⟩) hCw _) (fun hS => ?_)
            clear hK13
            try simp only [Act.put, zzA, zzB, zzC, zzD, zzE, zzF]
            refine wpAnyY_oneW (i := 14) (by kernel_rfl) rfl (by kernel_rfl) (by kernel_rfl) (fun K14 hK14 => ?_)
            go_simp
            refine hK14.out _ _ ?_
            clear hK14
            try simp only [Act.put, zzA, zzB, zzC, zzD, zzE, zzF]
            refine wpAnyY_done (by kernel_rfl) ?_ _
            clear hS cC zC lC
            have HZ2 := Lib.hid (HZ.out _ (g0.t (gg.s (p := ⟨C, 0, none⟩) hCw (.pointer none))))
            clear HZ HP1 HP2 HBD HQU2 HMI HBA bC gg hCw
            go_wp2_with fail
            first | exact HZ2.out | (go_ret; exact HZ2.out)
          · rw [← HCC.out] at hk hF
            have HF := Lib.hid hF
            have HZ := Lib.hid (HP2.out hq0 k hk)
            obtain ⟨hb1, hb2⟩ := HBD.out k hk
            have HB1 := Lib.hid hb1
            clear hk hF hd hb1 hq0
            refine hK8.out _ _ (gg.t hGc) (fun hS => ?_)
            replace gg := gg.t hGc
            replace bC := bC.keep hGc
            clear hK8 hGc
            try simp only [Act.put, zzA, zzB, zzC, zzD, zzE, zzF]
            refine wpAnyY_take (i := 9) (v := ?_) rfl (by kernel_rfl) (by kernel_rfl) (by kernel_rfl) (by kernel_rfl) (fun _ _ _ h => h) (Or.inl ⟨by kernel_rfl, ?_⟩) hS ?_
            rotate_left
            · intro w' hSw; go_simp; with_reducible rfl
            try simp only [Act.put, zzA, zzB, zzC, zzD, zzE, zzF]
            refine wpAnyY_take (i := 10) (v := ?_) rfl (by kernel_rfl) (by kernel_rfl) (by kernel_rfl) (by kernel_rfl) (fun _ _ _ h => h) (Or.inl ⟨by kernel_rfl, ?_⟩) hS ?_
            rotate_left
            · intro w' hSw; go_simp; with_reducible rfl
            try simp only [Act.put, zzA, zzB, zzC, zzD, zzE, zzF]
            refine wpAnyY_take (i := 11) (v := ?_) rfl (by kernel_rfl) (by kernel_rfl) (by kernel_rfl) (by kernel_rfl) (fun _ _ _ h => h) (Or.inl ⟨by kernel_rfl, ?_⟩) hS ?_
            rotate_left
            · intro w' hSw; go_simp; with_reducible rfl
            try simp only [Act.put, zzA, zzB, zzC, zzD, zzE, zzF]
            have cC := bC.cell 0
            have zC := bC.frozen 0
            have lC := bC.lt
            refine wpAnyY_oneSW (i := 13) (by kernel_rfl) rfl (by kernel_rfl) (fun K13 hK13 => ?_)
            go_simp
            refine hK13.out _ _ (gg.s (p := ⟨C, 0, none⟩) hCw _) (fun hS => ?_)
            clear hK13
            try simp only [Act.put, zzA, zzB, zzC, zzD, zzE, zzF]
            refine wpAnyY_oneW (i := 14) (by kernel_rfl) rfl (by kernel_rfl) (by kernel_rfl) (fun K14 hK14 => ?_)
            go_simp
            refine hK14.out _ _ ?_
            clear hK14
            try simp only [Act.put, zzA, zzB, zzC, zzD, zzE, zzF]
            refine wpAnyY_done (by kernel_rfl) ?_ _
            clear hS cC zC lC
            have g5 : G W0 (w8.setCell ⟨C, 0, none⟩ (.pointer (some ⟨J, 0, none⟩))) := gg.s (p := ⟨C, 0, none⟩) hCw (.pointer (some ⟨J, 0, none⟩))
            have F5 := Lib.hid (FolAt.set71 (.pointer (some ⟨J, 0, none⟩)) HF.out bC)
            replace bC : Blk (w8.setCell ⟨C, 0, none⟩ (.pointer (some ⟨J, 0, none⟩))) C 71 #[(.pointer (some ⟨J, 0, none⟩))] := bC.set_ 0 (.pointer (some ⟨J, 0, none⟩))
            clear gg HF HP1 HP2 HBD HQU2 HMI HBA
            generalize w8.setCell ⟨C, 0, none⟩ (.pointer (some ⟨J, 0, none⟩)) = W5 at *
            have HN := Lib.hid (numbers_any 59 (enters_of Tryz.func59 (by kernel_rfl) rfl) #[.pointer (some ⟨C, 0, none⟩), .pointer (some ⟨B0 + 1, 0, none⟩), .pointer (some ⟨B0 + 1 + 1, 0, none⟩)] ND (fun b => whr k.past mi (b : Int) == bk) W5 (by omega) (fun W' hW i hi => inside1_any mi bk (i : Int) C (B0 + 1) (B0 + 1 + 1) W' (F5.out.keep hW).jt (bC.keep hW) ((b1.keep g5).keep hW) ((b2.keep g5).keep hW)))
            unfold IvPost at HN
            have b5 := b0.keep g5
            have c1 : W5.cell? ⟨B0, 1, none⟩ = some (.int .i64 (ND : Nat)) := by rw [b5.cell 1]; have e := HB1.out; rw [HCC.out] at e; dsimp only at e; rw [← e]; rfl
            have l0 := b5.lt
            have hsz := Nat.le_trans lw g5.size
            have HG := Lib.hid (g0.t g5)
            clear b5 F5 bC b0 b1 b2 g5
            go_wp2_with (go_at_call 40; refine HN.out.mono ?_; rintro e w9 ⟨v, rfl, ho, hG9⟩; have HO := Lib.hid (own_weaken ho hsz); clear ho)
            first | exact HZ.out _ _ HO.out (HG.out.t hG9) | (go_ret; exact HZ.out _ _ HO.out (HG.out.t hG9))
      · go_simp
        refine hK12.out _ _ (gg.a _) (fun hS => ?_)
        clear hK12
        try simp only [Act.put, zzA, zzB, zzC, zzD, zzE, zzF]
        have hCw : W0.heap.size ≤ w2.heap.size := gg.size
        have bC := Blk.new w2 71 #[.pointer none]
        replace gg := gg.a (.cells #[.pointer none] 71)
        obtain ⟨C, hC⟩ : ∃ C, C = w2.heap.size := ⟨_, rfl⟩
        rw [← hC] at bC hCw ⊢
        clear hC
        generalize w2.alloc (.cells #[.pointer none] 71) = WC at *
        refine wpAnyY_oneSW (i := 6) (by kernel_rfl) rfl (by kernel_rfl) (fun K6 hK6 => ?_)
        go_simp
        refine (HBA.out _).mono ?_
        rintro e w6 ⟨rfl, hGc⟩
        refine hK6.out _ _ (gg.t hGc) (fun hS => ?_)
        replace gg := gg.t hGc
        replace bC := bC.keep hGc
        clear hK6 hGc
        try simp only [Act.put, zzA, zzB, zzC, zzD, zzE, zzF]
        refine wpAnyY_take (i := 7) (v := ?_) rfl (by kernel_rfl) (by kernel_rfl) (by kernel_rfl) (by kernel_rfl) (fun _ _ _ h => h) (Or.inl ⟨by kernel_rfl, ?_⟩) hS ?_
        rotate_left
        · intro w' hSw; go_simp; with_reducible rfl
        try simp only [Act.put, zzA, zzB, zzC, zzD, zzE, zzF]
        refine wpAnyY_oneSW (i := 8) (by kernel_rfl) rfl (by kernel_rfl) (fun K8 hK8 => ?_)
        go_simp
        refine (HQU2.out _ (g0.t gg)).mono ?_
        rintro e w8 ⟨hGc, ⟨hne, rfl⟩ | ⟨hq0, hd, k, J, m, P, pa, pc, qa, qc, hk, rfl, hF⟩⟩
        · have HZ := Lib.hid (fun (W : World) (hW : G w W) => HP1.out hne W hW)
          have hneb : ¬ QE = 0 := hne
          clear hne
          refine hK8.out _ _ (gg.t hGc) (fun hS => ?_)
          replace gg := gg.t hGc
          replace bC := bC.keep hGc
          clear hK8 hGc
          try simp only [Act.put, zzA, zzB, zzC, zzD, zzE, zzF]
          refine wpAnyY_take (i := 9) (v := ?_) rfl (by kernel_rfl) (by kernel_rfl) (by kernel_rfl) (by kernel_rfl) (fun _ _ _ h => h) (Or.inl ⟨by kernel_rfl, ?_⟩) hS ?_
          rotate_left
          · intro w' hSw; go_simp; with_reducible rfl
          try simp only [Act.put, zzA, zzB, zzC, zzD, zzE, zzF]
          refine wpAnyY_take (i := 10) (v := ?_) rfl (by kernel_rfl) (by kernel_rfl) (by kernel_rfl) (by kernel_rfl) (fun _ _ _ h => h) (Or.inl ⟨by kernel_rfl, ?_⟩) hS ?_
          rotate_left
          · intro w' hSw; go_simp; with_reducible rfl
          try simp only [Act.put, zzA, zzB, zzC, zzD, zzE, zzF]
          refine wpAnyY_take (i := 11) (v := ?_) rfl (by kernel_rfl) (by kernel_rfl) (by kernel_rfl) (by kernel_rfl) (fun _ _ _ h => h) (Or.inl ⟨by kernel_rfl, ?_⟩) hS ?_
          rotate_left
          · intro w' hSw; go_simp; with_reducible rfl
          try simp only [Act.put, zzA, zzB, zzC, zzD, zzE, zzF]
          have cC := bC.cell 0
          have zC := bC.frozen 0
          have lC := bC.lt
          refine wpAnyY_oneSW (i := 13) (by kernel_rfl) rfl (by kernel_rfl) (fun K13 hK13 => ?_)
          go_simp
          refine hK13.out _ _ (gg.s (p := ⟨C, 0, none⟩) hCw _) (fun hS => ?_)
          clear hK13
          try simp only [Act.put, zzA, zzB, zzC, zzD, zzE, zzF]
          refine wpAnyY_oneW (i := 14) (by kernel_rfl) rfl (by kernel_rfl) (by kernel_rfl) (fun K14 hK14 => ?_)
          go_simp
          refine hK14.out _ _ ?_
          clear hK14
          try simp only [Act.put, zzA, zzB, zzC, zzD, zzE, zzF]
          refine wpAnyY_done (by kernel_rfl) ?_ _
          clear hS cC zC lC
          have HZ2 := Lib.hid (HZ.out _ (g0.t (gg.s (p := ⟨C, 0, none⟩) hCw (.pointer none))))
          clear HZ HP1 HP2 HBD HQU2 HMI HBA bC gg hCw
          go_wp2_with fail
          first | exact HZ2.out | (go_ret; exact HZ2.out)
        · rw [← HCC.out] at hk hF
          have HF := Lib.hid hF
          have HZ := Lib.hid (HP2.out hq0 k hk)
          obtain ⟨hb1, hb2⟩ := HBD.out k hk
          have HB1 := Lib.hid hb1
          clear hk hF hd hb1 hq0
          refine hK8.out _ _ (gg.t hGc) (fun hS => ?_)
          replace gg := gg.t hGc
          replace bC := bC.keep hGc
          clear hK8 hGc
          try simp only [Act.put, zzA, zzB, zzC, zzD, zzE, zzF]
          refine wpAnyY_take (i := 9) (v := ?_) rfl (by kernel_rfl) (by kernel_rfl) (by kernel_rfl) (by kernel_rfl) (fun _ _ _ h => h) (Or.inl ⟨by kernel_rfl, ?_⟩) hS ?_
          rotate_left
          · intro w' hSw; go_simp; with_reducible rfl
          try simp only [Act.put, zzA, zzB, zzC, zzD, zzE, zzF]
          refine wpAnyY_take (i := 10) (v := ?_) rfl (by kernel_rfl) (by kernel_rfl) (by kernel_rfl) (by kernel_rfl) (fun _ _ _ h => h) (Or.inl ⟨by kernel_rfl, ?_⟩) hS ?_
          rotate_left
          · intro w' hSw; go_simp; with_reducible rfl
          try simp only [Act.put, zzA, zzB, zzC, zzD, zzE, zzF]
          refine wpAnyY_take (i := 11) (v := ?_) rfl (by kernel_rfl) (by kernel_rfl) (by kernel_rfl) (by kernel_rfl) (fun _ _ _ h => h) (Or.inl ⟨by kernel_rfl, ?_⟩) hS ?_
          rotate_left
          · intro w' hSw; go_simp; with_reducible rfl
          try simp only [Act.put, zzA, zzB, zzC, zzD, zzE, zzF]
          have cC := bC.cell 0
          have zC := bC.frozen 0
          have lC := bC.lt
          refine wpAnyY_oneSW (i := 13) (by kernel_rfl) rfl (by kernel_rfl) (fun K13 hK13 => ?_)
          go_simp
          refine hK13.out _ _ (gg.s (p := ⟨C, 0, none⟩) hCw _) (fun hS => ?_)
          clear hK13
          try simp only [Act.put, zzA, zzB, zzC, zzD, zzE, zzF]
          refine wpAnyY_oneW (i := 14) (by kernel_rfl) rfl (by kernel_rfl) (by kernel_rfl) (fun K14 hK14 => ?_)
          go_simp
          refine hK14.out _ _ ?_
          clear hK14
          try simp only [Act.put, zzA, zzB, zzC, zzD, zzE, zzF]
          refine wpAnyY_done (by kernel_rfl) ?_ _
          clear hS cC zC lC
          have g5 : G W0 (w8.setCell ⟨C, 0, none⟩ (.pointer (some ⟨J, 0, none⟩))) := gg.s (p := ⟨C, 0, none⟩) hCw (.pointer (some ⟨J, 0, none⟩))
          have F5 := Lib.hid (FolAt.set71 (.pointer (some ⟨J, 0, none⟩)) HF.out bC)
          replace bC : Blk (w8.setCell ⟨C, 0, none⟩ (.pointer (some ⟨J, 0, none⟩))) C 71 #[(.pointer (some ⟨J, 0, none⟩))] := bC.set_ 0 (.pointer (some ⟨J, 0, none⟩))
          clear gg HF HP1 HP2 HBD HQU2 HMI HBA
          generalize w8.setCell ⟨C, 0, none⟩ (.pointer (some ⟨J, 0, none⟩)) = W5 at *
          have HN := Lib.hid (numbers_any 59 (enters_of Tryz.func59 (by kernel_rfl) rfl) #[.pointer (some ⟨C, 0, none⟩), .pointer (some ⟨B0 + 1, 0, none⟩), .pointer (some ⟨B0 + 1 + 1, 0, none⟩)] ND (fun b => whr k.past mi (b : Int) == bk) W5 (by omega) (fun W' hW i hi => inside1_any mi bk (i : Int) C (B0 + 1) (B0 + 1 + 1) W' (F5.out.keep hW).jt (bC.keep hW) ((b1.keep g5).keep hW) ((b2.keep g5).keep hW)))
          unfold IvPost at HN
          have b5 := b0.keep g5
          have c1 : W5.cell? ⟨B0, 1, none⟩ = some (.int .i64 (ND : Nat)) := by rw [b5.cell 1]; have e := HB1.out; rw [HCC.out] at e; dsimp only at e; rw [← e]; rfl
          have l0 := b5.lt
          have hsz := Nat.le_trans lw g5.size
          have HG := Lib.hid (g0.t g5)
          clear b5 F5 bC b0 b1 b2 g5
          go_wp2_with (go_at_call 40; refine HN.out.mono ?_; rintro e w9 ⟨v, rfl, ho, hG9⟩; have HO := Lib.hid (own_weaken ho hsz); clear ho)
          first | exact HZ.out _ _ HO.out (HG.out.t hG9) | (go_ret; exact HZ.out _ _ HO.out (HG.out.t hG9))
    · go_simp
      refine hK12.out _ _ (gg.a _) (fun hS => ?_)
      clear hK12
      try simp only [Act.put, zzA, zzB, zzC, zzD, zzE, zzF]
      have hCw : W0.heap.size ≤ WD.heap.size := gg.size
      have bC := Blk.new WD 71 #[.pointer none]
      replace gg := gg.a (.cells #[.pointer none] 71)
      obtain ⟨C, hC⟩ : ∃ C, C = WD.heap.size := ⟨_, rfl⟩
      rw [← hC] at bC hCw ⊢
      clear hC
      generalize WD.alloc (.cells #[.pointer none] 71) = WC at *
      refine wpAnyY_oneSW (i := 2) (by kernel_rfl) rfl (by kernel_rfl) (fun K2 hK2 => ?_)
      go_simp
      refine (HMI.out _).mono ?_
      rintro e w2 ⟨rfl, hGc⟩
      refine hK2.out _ _ (gg.t hGc) (fun hS => ?_)
      replace gg := gg.t hGc
      replace bC := bC.keep hGc
      clear hK2 hGc
      try simp only [Act.put, zzA, zzB, zzC, zzD, zzE, zzF]
      refine wpAnyY_take (i := 3) (v := ?_) rfl (by kernel_rfl) (by kernel_rfl) (by kernel_rfl) (by kernel_rfl) (fun _ _ _ h => h) (Or.inl ⟨by kernel_rfl, ?_⟩) hS ?_
      rotate_left
      · intro w' hSw; go_simp; with_reducible rfl
      try simp only [Act.put, zzA, zzB, zzC, zzD, zzE, zzF]
      refine wpAnyY_take (i := 4) (v := ?_) rfl (by kernel_rfl) (by kernel_rfl) (by kernel_rfl) (by kernel_rfl) (fun _ _ _ h => h) (Or.inl ⟨by kernel_rfl, ?_⟩) hS ?_
      rotate_left
      · intro w' hSw; have c0 := (b0.keep hSw).cell 0; have c1 := (b0.keep hSw).cell 1; have c2 := (b0.keep hSw).cell 2; have c3 := (b0.keep hSw).cell 3; have c4 := (b0.keep hSw).cell 4; have e0 := (b1.keep hSw).cell 0; have f0 := (b2.keep hSw).cell 0; have l0 := (b0.keep hSw).lt; have l1 := (b1.keep hSw).lt; have l2 := (b2.keep hSw).lt; go_simp; with_reducible rfl
      try simp only [Act.put, zzA, zzB, zzC, zzD, zzE, zzF]
      refine wpAnyY_take (i := 5) (v := ?_) rfl (by kernel_rfl) (by kernel_rfl) (by kernel_rfl) (by kernel_rfl) (fun _ _ _ h => h) (Or.inl ⟨by kernel_rfl, ?_⟩) hS ?_
      rotate_left
      · intro w' hSw; have c0 := (b0.keep hSw).cell 0; have c1 := (b0.keep hSw).cell 1; have c2 := (b0.keep hSw).cell 2; have c3 := (b0.keep hSw).cell 3; have c4 := (b0.keep hSw).cell 4; have e0 := (b1.keep hSw).cell 0; have f0 := (b2.keep hSw).cell 0; have l0 := (b0.keep hSw).lt; have l1 := (b1.keep hSw).lt; have l2 := (b2.keep hSw).lt; go_simp; with_reducible rfl
      try simp only [Act.put, zzA, zzB, zzC, zzD, zzE, zzF]
      refine wpAnyY_oneSW (i := 6) (by kernel_rfl) rfl (by kernel_rfl) (fun K6 hK6 => ?_)
      go_simp
      refine (HBA.out _).mono ?_
      rintro e w6 ⟨rfl, hGc⟩
      refine hK6.out _ _ (gg.t hGc) (fun hS => ?_)
      replace gg := gg.t hGc
      replace bC := bC.keep hGc
      clear hK6 hGc
      try simp only [Act.put, zzA, zzB, zzC, zzD, zzE, zzF]
      refine wpAnyY_take (i := 7) (v := ?_) rfl (by kernel_rfl) (by kernel_rfl) (by kernel_rfl) (by kernel_rfl) (fun _ _ _ h => h) (Or.inl ⟨by kernel_rfl, ?_⟩) hS ?_
      rotate_left
      · intro w' hSw; go_simp; with_reducible rfl
      try simp only [Act.put, zzA, zzB, zzC, zzD, zzE, zzF]
      refine wpAnyY_oneSW (i := 8) (by kernel_rfl) rfl (by kernel_rfl) (fun K8 hK8 => ?_)
      go_simp
      refine (HQU2.out _ (g0.t gg)).mono ?_
      rintro e w8 ⟨hGc, ⟨hne, rfl⟩ | ⟨hq0, hd, k, J, m, P, pa, pc, qa, qc, hk, rfl, hF⟩⟩
      · have HZ := Lib.hid (fun (W : World) (hW : G w W) => HP1.out hne W hW)
        have hneb : ¬ QE = 0 := hne
        clear hne
        refine hK8.out _ _ (gg.t hGc) (fun hS => ?_)
        replace gg := gg.t hGc
        replace bC := bC.keep hGc
        clear hK8 hGc
        try simp only [Act.put, zzA, zzB, zzC, zzD, zzE, zzF]
        refine wpAnyY_take (i := 9) (v := ?_) rfl (by kernel_rfl) (by kernel_rfl) (by kernel_rfl) (by kernel_rfl) (fun _ _ _ h => h) (Or.inl ⟨by kernel_rfl, ?_⟩) hS ?_
        rotate_left
        · intro w' hSw; go_simp; with_reducible rfl
        try simp only [Act.put, zzA, zzB, zzC, zzD, zzE, zzF]
        refine wpAnyY_take (i := 10) (v := ?_) rfl (by kernel_rfl) (by kernel_rfl) (by kernel_rfl) (by kernel_rfl) (fun _ _ _ h => h) (Or.inl ⟨by kernel_rfl, ?_⟩) hS ?_
        rotate_left
        · intro w' hSw; go_simp; with_reducible rfl
        try simp only [Act.put, zzA, zzB, zzC, zzD, zzE, zzF]
        refine wpAnyY_take (i := 11) (v := ?_) rfl (by kernel_rfl) (by kernel_rfl) (by kernel_rfl) (by kernel_rfl) (fun _ _ _ h => h) (Or.inl ⟨by kernel_rfl, ?_⟩) hS ?_
        rotate_left
        · intro w' hSw; go_simp; with_reducible rfl
        try simp only [Act.put, zzA, zzB, zzC, zzD, zzE, zzF]
        have cC := bC.cell 0
        have zC := bC.frozen 0
        have lC := bC.lt
        refine wpAnyY_oneSW (i := 13) (by kernel_rfl) rfl (by kernel_rfl) (fun K13 hK13 => ?_)
        go_simp
        refine hK13.out _ _ (gg.s (p := ⟨C, 0, none⟩) hCw _) (fun hS => ?_)
        clear hK13
        try simp only [Act.put, zzA, zzB, zzC, zzD, zzE, zzF]
        refine wpAnyY_oneW (i := 14) (by kernel_rfl) rfl (by kernel_rfl) (by kernel_rfl) (fun K14 hK14 => ?_)
        go_simp
        refine hK14.out _ _ ?_
        clear hK14
        try simp only [Act.put, zzA, zzB, zzC, zzD, zzE, zzF]
        refine wpAnyY_done (by kernel_rfl) ?_ _
        clear hS cC zC lC
        have HZ2 := Lib.hid (HZ.out _ (g0.t (gg.s (p := ⟨C, 0, none⟩) hCw (.pointer none))))
        clear HZ HP1 HP2 HBD HQU2 HMI HBA bC gg hCw
        go_wp2_with fail
        first | exact HZ2.out | (go_ret; exact HZ2.out)
      · rw [← HCC.out] at hk hF
        have HF := Lib.hid hF
        have HZ := Lib.hid (HP2.out hq0 k hk)
        obtain ⟨hb1, hb2⟩ := HBD.out k hk
        have HB1 := Lib.hid hb1
        clear hk hF hd hb1 hq0
        refine hK8.out _ _ (gg.t hGc) (fun hS => ?_)
        replace gg := gg.t hGc
        replace bC := bC.keep hGc
        clear hK8 hGc
        try simp only [Act.put, zzA, zzB, zzC, zzD, zzE, zzF]
        refine wpAnyY_take (i := 9) (v := ?_) rfl (by kernel_rfl) (by kernel_rfl) (by kernel_rfl) (by kernel_rfl) (fun _ _ _ h => h) (Or.inl ⟨by kernel_rfl, ?_⟩) hS ?_
        rotate_left
        · intro w' hSw; go_simp; with_reducible rfl
        try simp only [Act.put, zzA, zzB, zzC, zzD, zzE, zzF]
        refine wpAnyY_take (i := 10) (v := ?_) rfl (by kernel_rfl) (by kernel_rfl) (by kernel_rfl) (by kernel_rfl) (fun _ _ _ h => h) (Or.inl ⟨by kernel_rfl, ?_⟩) hS ?_
        rotate_left
        · intro w' hSw; go_simp; with_reducible rfl
        try simp only [Act.put, zzA, zzB, zzC, zzD, zzE, zzF]
        refine wpAnyY_take (i := 11) (v := ?_) rfl (by kernel_rfl) (by kernel_rfl) (by kernel_rfl) (by kernel_rfl) (fun _ _ _ h => h) (Or.inl ⟨by kernel_rfl, ?_⟩) hS ?_
        rotate_left
        · intro w' hSw; go_simp; with_reducible rfl
        try simp only [Act.put, zzA, zzB, zzC, zzD, zzE, zzF]
        have cC := bC.cell 0
        have zC := bC.frozen 0
        have lC := bC.lt
        refine wpAnyY_oneSW (i := 13) (by kernel_rfl) rfl (by kernel_rfl) (fun K13 hK13 => ?_)
        go_simp
        refine hK13.out _ _ (gg.s (p := ⟨C, 0, none⟩) hCw _) (fun hS => ?_)
        clear hK13
        try simp only [Act.put, zzA, zzB, zzC, zzD, zzE, zzF]
        refine wpAnyY_oneW (i := 14) (by kernel_rfl) rfl (by kernel_rfl) (by kernel_rfl) (fun K14 hK14 => ?_)
        go_simp
        refine hK14.out _ _ ?_
        clear hK14
        try simp only [Act.put, zzA, zzB, zzC, zzD, zzE, zzF]
        refine wpAnyY_done (by kernel_rfl) ?_ _
        clear hS cC zC lC
        have g5 : G W0 (w8.setCell ⟨C, 0, none⟩ (.pointer (some ⟨J, 0, none⟩))) := gg.s (p := ⟨C, 0, none⟩) hCw (.pointer (some ⟨J, 0, none⟩))
        have F5 := Lib.hid (FolAt.set71 (.pointer (some ⟨J, 0, none⟩)) HF.out bC)
        replace bC : Blk (w8.setCell ⟨C, 0, none⟩ (.pointer (some ⟨J, 0, none⟩))) C 71 #[(.pointer (some ⟨J, 0, none⟩))] := bC.set_ 0 (.pointer (some ⟨J, 0, none⟩))
        clear gg HF HP1 HP2 HBD HQU2 HMI HBA
        generalize w8.setCell ⟨C, 0, none⟩ (.pointer (some ⟨J, 0, none⟩)) = W5 at *
        have HN := Lib.hid (numbers_any 59 (enters_of Tryz.func59 (by kernel_rfl) rfl) #[.pointer (some ⟨C, 0, none⟩), .pointer (some ⟨B0 + 1, 0, none⟩), .pointer (some ⟨B0 + 1 + 1, 0, none⟩)] ND (fun b => whr k.past mi (b : Int) == bk) W5 (by omega) (fun W' hW i hi => inside1_any mi bk (i : Int) C (B0 + 1) (B0 + 1 + 1) W' (F5.out.keep hW).jt (bC.keep hW) ((b1.keep g5).keep hW) ((b2.keep g5).keep hW)))
        unfold IvPost at HN
        have b5 := b0.keep g5
        have c1 : W5.cell? ⟨B0, 1, none⟩ = some (.int .i64 (ND : Nat)) := by rw [b5.cell 1]; have e := HB1.out; rw [HCC.out] at e; dsimp only at e; rw [← e]; rfl
        have l0 := b5.lt
        have hsz := Nat.le_trans lw g5.size
        have HG := Lib.hid (g0.t g5)
        clear b5 F5 bC b0 b1 b2 g5
        go_wp2_with (go_at_call 40; refine HN.out.mono ?_; rintro e w9 ⟨v, rfl, ho, hG9⟩; have HO := Lib.hid (own_weaken ho hsz); clear ho)
        first | exact HZ.out _ _ HO.out (HG.out.t hG9) | (go_ret; exact HZ.out _ _ HO.out (HG.out.t hG9))
end Go.Proofs.YtabnpimidhlbiaaGreat

set_option linter.unusedSimpArgs false
set_option linter.unusedVariables false
namespace Go.Proofs.YtabnpimidhlbiaaGreat
open Go.RowKit Go.Shelf Go.Sort
attribute [local go_sem] Oper.semAt_some
/-- the cells of spans -/
def spE (s : Int × Int) : List Value := [.int .i64 s.1, .int .i64 s.2]
def spV (l : List (Int × Int)) : List Value := l.flatMap spE
theorem spV_len (l : List (Int × Int)) : (spV l).length = l.length * 2 := by
  induction l with
  | nil => rfl
  | cons x l ih => simp only [spV, List.flatMap_cons, List.length_append, List.length_cons] at *; rw [ih]; simp [spE]; omega
theorem spV_snoc (l : List (Int × Int)) (x : Int × Int) : spV (l ++ [x]) = spV l ++ spE x := by simp [spV]
/-- one more period: the last span grows, or there is a new one -/
def opnS (ps : List Pe) (bk : Int) (l : List (Int × Int)) (p : Pe) : List (Int × Int) :=
  if p.bk ≠ bk ∨ openL ps p > p.en - 1 then l
  else if l ≠ [] ∧ (l.getLast?.getD (0, 0)).2 + 1 = openL ps p then l.dropLast ++ [((l.getLast?.getD (0, 0)).1, p.en - 1)]
  else l ++ [(openL ps p, p.en - 1)]
def opnL (ps : List Pe) (bk : Int) : List (Int × Int) := ps.foldl (opnS ps bk) []
theorem opn_take (ps : List Pe) (bk : Int) {k : Nat} (h : k < ps.length) : (ps.take (k + 1)).foldl (opnS ps bk) [] = opnS ps bk ((ps.take k).foldl (opnS ps bk) []) (ps.getD k default) := by
  rw [List.take_succ_eq_append_getElem h, List.foldl_append]
  simp [List.getD, h]
/-- spans whose ends are no great numbers -/
def SpB (l : List (Int × Int)) : Prop := ∀ s ∈ l, -100000 ≤ s.2 ∧ s.2 ≤ 100000
theorem opnS_len (ps : List Pe) (bk : Int) (l : List (Int × Int)) (p : Pe) : (opnS ps bk l p).length ≤ l.length + 1 := by
  unfold opnS
  split
  · exact Nat.le_succ _
  split
  · simp <;> omega
  · simp
theorem opnS_spb {ps : List Pe} {bk : Int} {l : List (Int × Int)} {p : Pe} (h : SpB l) (hp : -100000 ≤ p.en - 1 ∧ p.en - 1 ≤ 100000) : SpB (opnS ps bk l p) := by
  unfold opnS
  by_cases c1 : p.bk ≠ bk ∨ openL ps p > p.en - 1
  · rw [if_pos c1]; exact h
  rw [if_neg c1]
  by_cases c2 : l ≠ [] ∧ (l.getLast?.getD (0, 0)).2 + 1 = openL ps p
  · rw [if_pos c2]
    intro s hs
    rcases List.mem_append.1 hs with hs | hs
    · exact h s ((List.dropLast_sublist l).subset hs)
    · rw [List.mem_singleton.1 hs]; exact hp
  · rw [if_neg c2]
    intro s hs
    rcases List.mem_append.1 hs with hs | hs
    · exact h s hs
    · rw [List.mem_singleton.1 hs]; exact hp
theorem info61 : (Tryz.prog.info? 61).map (fun i => (i.zero, i.size, i.bytes)) = some (some (.agg #[.int .i64 0, .int .i64 0]), 2, 16) := by kernel_rfl
/-- the last span's end is another number -/
theorem sp_put {W : World} {B g cap : Nat} {T : List (Int × Int)} {a b : Int} (u : Int) (h : W.ownsRow B 61 2 (.slice (some ⟨g, 0, none⟩) (T.length + 1) cap) (T.length + 1) (spV (T ++ [(a, b)]))) :
    (W.setCell ⟨g, T.length * 2 + 1, none⟩ (.int .i64 u)).ownsRow B 61 2 (.slice (some ⟨g, 0, none⟩) (T.length + 1) cap) (T.length + 1) (spV (T ++ [(a, u)])) := by
  rcases h.2 with ⟨hv, _⟩ | ⟨g', cap', cur, hv, hb, hg, h1, h2, h3, h4⟩
  · cases hv
  · cases hv
    have hB : Blk W g 61 cur := hg
    refine ⟨by rw [spV_len]; simp, .inr ⟨g, cap, cur.setIfInBounds (T.length * 2 + 1) (.int .i64 u), rfl, hb, hB.set_ _ _, h1, h2, by simpa using h3, ?_⟩⟩
    rw [spV_snoc] at h4 ⊢
    have hl := spV_len T
    have hlen : T.length * 2 + 1 < cur.toList.length := by simp; omega
    apply List.ext_getElem?
    intro t
    have e4 : (cur.toList.take ((T.length + 1) * 2))[t]? = (spV T ++ spE (a, b))[t]? := by rw [h4]
    by_cases ht : t < (T.length + 1) * 2
    · rw [List.getElem?_take_of_lt ht] at e4 ⊢
      rw [Array.toList_setIfInBounds, List.getElem?_set]
      by_cases c : T.length * 2 + 1 = t
      · rw [if_pos c, if_pos (by omega), ← c, List.getElem?_append_right (by omega), hl]
        simp [spE]
      · rw [if_neg c, e4]
        by_cases d : t < (spV T).length
        · rw [List.getElem?_append_left d, List.getElem?_append_left d]
        · rw [List.getElem?_append_right (by omega), List.getElem?_append_right (by omega)]
          have : t - (spV T).length = 0 := by omega
          rw [this]
          rfl
    · rw [List.getElem?_take_eq_none (by omega), List.getElem?_eq_none (by simp [spV_len, spE]; omega)]
theorem sp_cell {W : World} {B g cap : Nat} {T : List (Int × Int)} {a b : Int} (h : W.ownsRow B 61 2 (.slice (some ⟨g, 0, none⟩) (T.length + 1) cap) (T.length + 1) (spV (T ++ [(a, b)]))) : W.cell? ⟨g, T.length * 2 + 1, none⟩ = some (.int .i64 b) ∧ W.frozen? ⟨g, T.length * 2 + 1, none⟩ = false ∧ g < W.heap.size ∧ B ≤ g := by
  rcases h.2 with ⟨hv, _⟩ | ⟨g', cap', cur, hv, hb, hg, h1, h2, h3, h4⟩
  · cases hv
  · cases hv
    have hB : Blk W g 61 cur := hg
    refine ⟨?_, hB.frozen _, hB.lt, hb⟩
    have e4 : (cur.toList.take ((T.length + 1) * 2))[T.length * 2 + 1]? = (spV T ++ spE (a, b))[T.length * 2 + 1]? := by rw [h4, spV_snoc]
    rw [List.getElem?_take_of_lt (by omega), List.getElem?_append_right (by rw [spV_len]; omega), spV_len] at e4
    rw [hB.cell, ← Array.getElem?_toList, e4]
    simp [spE]
end Go.Proofs.YtabnpimidhlbiaaGreat

set_option linter.unusedSimpArgs false
set_option linter.unusedVariables false
namespace Go.Proofs.YtabnpimidhlbiaaGreat
open Go.RowKit Go.Shelf Go.Sort
attribute [local go_sem] Oper.semAt_some
/-- what Openings answers -/
def OpnPost (c : Cv) (bk : Int) (w : World) (e : Ending) (w' : World) : Prop :=
  ∃ v l, e = .returned (.tuple #[v, .int .i64 (qErr c (upB bk (c.bks - 1)))]) ∧ w'.ownsRow w.heap.size 61 2 v l.length (spV l) ∧ G w w' ∧
    (qErr c (upB bk (c.bks - 1)) ≠ 0 → l = []) ∧ (qErr c (upB bk (c.bks - 1)) = 0 → ∀ k, folJ c = some k → l = opnL k.ps bk)
set_option maxRecDepth 100000 in
set_option maxHeartbeats 8000000 in
theorem Openings_any (c : Cv) (bk : Int) (w : World) (h : c.At w) : Calls Tryz.prog 23 #[.agg c.v, .int .i64 bk] w (OpnPost c bk w) := by
  have HBA := Lib.hid (fun (W : World) => basket_any c bk W h.b1)
  have HQU := Lib.hid (fun (d : Bool) (W : World) (hW : G w W) => question_any c d W (h.keep hW))
  obtain ⟨QE, hQE⟩ : ∃ QE, QE = qErr c (upB bk (c.bks - 1)) := ⟨_, rfl⟩
  have HP1 : Hid (QE ≠ 0 → ∀ w', G w w' → OpnPost c bk w (.returned (.tuple #[.slice none 0 0, .int .i64 QE])) w') := fun h1 w' hG =>
    ⟨_, [], by rw [hQE], World.ownsRow_nil _ _ _ _, hG, fun _ => rfl, fun e => absurd (hQE.trans e) h1⟩
  have HP2 : Hid (QE = 0 → ∀ k, folJ c = some k → ∀ w' v, w'.ownsRow w.heap.size 61 2 v (opnL k.ps bk).length (spV (opnL k.ps bk)) → G w w' → OpnPost c bk w (.returned (.tuple #[v, .int .i64 0])) w') := fun h1 k hk w' v ho hG =>
    ⟨v, _, by rw [← hQE, h1], ho, hG, fun e => absurd (hQE.symm.trans h1) e, fun _ k2 hk2 => by
      have e2 := hk.symm.trans hk2
      cases e2
      rfl⟩
  have HEN := Lib.hid (fun (k : Jn) (hk : folJ c = some k) => folJ_enb hk)
  generalize OpnPost c bk w = PP at *
  clear h
  obtain ⟨K, hK⟩ : ∃ K, K = upB bk (c.bks - 1) := ⟨_, rfl⟩
  rw [← hK] at HBA hQE
  clear hK
  have HQU2 := Lib.hid (fun (W : World) (hW : G w W) => HQU.out K W hW)
  unfold QuPost at HQU2
  rw [← hQE] at HQU2
  clear hQE HQU
  obtain ⟨CC, hCC⟩ : ∃ CC, CC = c := ⟨_, rfl⟩
  rw [← hCC] at HP2 HEN
  have HCC := Lib.hid hCC
  clear hCC
  obtain ⟨cbks, cbds, caa, cac, cacts, cda, cdc, cduties, cen⟩ := c
  unfold Cv.v at *
  dsimp only at *
  have g0 : G w (w.alloc (.cells #[.int .i64 cbks, .int .i64 cbds, .slice caa cacts.length cac, .slice cda cduties.length cdc, .int .i64 cen] 25)) := (G.rf _).a _
  have b0 : Blk (w.alloc (.cells #[.int .i64 cbks, .int .i64 cbds, .slice caa cacts.length cac, .slice cda cduties.length cdc, .int .i64 cen] 25)) w.heap.size 25 #[.int .i64 cbks, .int .i64 cbds, .slice caa cacts.length cac, .slice cda cduties.length cdc, .int .i64 cen] := Blk.new _ _ _
  have lw := g0.size
  obtain ⟨W0, hW0⟩ : ∃ W0, W0 = w.alloc (.cells #[.int .i64 cbks, .int .i64 cbds, .slice caa cacts.length cac, .slice cda cduties.length cdc, .int .i64 cen] 25) := ⟨_, rfl⟩
  rw [← hW0] at g0 b0 lw
  have HW0 := Lib.hid hW0
  clear hW0
  obtain ⟨B0, hB0⟩ : ∃ B0, B0 = w.heap.size := ⟨_, rfl⟩
  rw [← hB0] at b0
  have HB0 := Lib.hid hB0
  clear hB0
  go_enter Tryz.func23, Tryz.ntmps23
  go_upto_region 1 with fail
  change Code.wp _ _ _ _ (w.alloc (.cells #[.int .i64 cbks, .int .i64 cbds, .slice caa cacts.length cac, .slice cda cduties.length cdc, .int .i64 cen] 25))
  rw [← HW0.out, ← HB0.out]
  refine wp_region_Y (S := fun W' => G W0 W') 9 10 rfl (by kernel_rfl) ((G.rf W0).d) (fun hS => ?_)
  have gg : G W0 W0.drew := (G.rf W0).d
  generalize W0.drew = WD at *
  refine wpAnyY_take (i := 0) (v := ?_) rfl (by kernel_rfl) (by kernel_rfl) (by kernel_rfl) (by kernel_rfl) (fun _ _ _ h => h) (Or.inl ⟨by kernel_rfl, ?_⟩) hS ?_
  rotate_left
  · intro w' hSw; have c0 := (b0.keep hSw).cell 0; have c1 := (b0.keep hSw).cell 1; have c2 := (b0.keep hSw).cell 2; have c3 := (b0.keep hSw).cell 3; have c4 := (b0.keep hSw).cell 4; have l0 := (b0.keep hSw).lt; go_simp; with_reducible rfl
  try simp only [Act.put, zzA, zzB, zzC, zzD, zzE, zzF]
  refine wpAnyY_take (i := 1) (v := ?_) rfl (by kernel_rfl) (by kernel_rfl) (by kernel_rfl) (by kernel_rfl) (fun _ _ _ h => h) (Or.inl ⟨by kernel_rfl, ?_⟩) hS ?_
  rotate_left
  · intro w' hSw; have c0 := (b0.keep hSw).cell 0; have c1 := (b0.keep hSw).cell 1; have c2 := (b0.keep hSw).cell 2; have c3 := (b0.keep hSw).cell 3; have c4 := (b0.keep hSw).cell 4; have l0 := (b0.keep hSw).lt; go_simp; with_reducible rfl
  try simp only [Act.put, zzA, zzB, zzC, zzD, zzE, zzF]
  refine wpAnyY_take (i := 2) (v := ?_) rfl (by kernel_rfl) (by kernel_rfl) (by kernel_rfl) (by kernel_rfl) (fun _ _ _ h => h) (Or.inl ⟨by kernel_rfl, ?_⟩) hS ?_
  rotate_left
  · intro w' hSw; go_simp; with_reducible rfl
  try simp only [Act.put, zzA, zzB, zzC, zzD, zzE, zzF]
  refine wpAnyY_oneSW (i := 3) (by kernel_rfl) rfl (by kernel_rfl) (fun K3 hK3 => ?_)
  go_simp
  refine (HBA.out _).mono ?_
  rintro e w2 ⟨rfl, hGc⟩
  refine hK3.out _ _ (gg.t hGc) (fun hS => ?_)
  replace gg := gg.t hGc
  clear hK3 hGc
  try simp only [Act.put, zzA, zzB, zzC, zzD, zzE, zzF]
  refine wpAnyY_oneSW (i := 4) (by kernel_rfl) rfl (by kernel_rfl) (fun K4 hK4 => ?_)
  go_simp
  refine (HQU2.out _ (g0.t gg)).mono ?_
  rintro e w8 ⟨hGc, ⟨hne, rfl⟩ | ⟨hq0, hd, k, J, m, P, pa, pc, qa, qc, hk, rfl, hF⟩⟩
  · have HZ := Lib.hid (HP1.out hne w8 (g0.t (gg.t hGc)))
    have hneb : ¬ QE = 0 := hne
    clear hne HP1 HP2 HEN HQU2 HBA
    refine hK4.out _ _ (gg.t hGc) (fun hS => ?_)
    clear hK4 hGc
    try simp only [Act.put, zzA, zzB, zzC, zzD, zzE, zzF]
    refine wpAnyY_take (i := 5) (v := ?_) rfl (by kernel_rfl) (by kernel_rfl) (by kernel_rfl) (by kernel_rfl) (fun _ _ _ h => h) (Or.inl ⟨by kernel_rfl, ?_⟩) hS ?_
    rotate_left
    · intro w' hSw; go_simp; with_reducible rfl
    try simp only [Act.put, zzA, zzB, zzC, zzD, zzE, zzF]
    refine wpAnyY_take (i := 6) (v := ?_) rfl (by kernel_rfl) (by kernel_rfl) (by kernel_rfl) (by kernel_rfl) (fun _ _ _ h => h) (Or.inl ⟨by kernel_rfl, ?_⟩) hS ?_
    rotate_left
    · intro w' hSw; go_simp; with_reducible rfl
    try simp only [Act.put, zzA, zzB, zzC, zzD, zzE, zzF]
    refine wpAnyY_take (i := 7) (v := ?_) rfl (by kernel_rfl) (by kernel_rfl) (by kernel_rfl) (by kernel_rfl) (fun _ _ _ h => h) (Or.inl ⟨by kernel_rfl, ?_⟩) hS ?_
    rotate_left
    · intro w' hSw; go_simp; with_reducible rfl
    try simp only [Act.put, zzA, zzB, zzC, zzD, zzE, zzF]
    refine wpAnyY_take (i := 8) (v := ?_) rfl (by kernel_rfl) (by kernel_rfl) (by kernel_rfl) (by kernel_rfl) (fun _ _ _ h => h) (Or.inl ⟨by kernel_rfl, ?_⟩) hS ?_
    rotate_left
    · intro w' hSw; go_simp; with_reducible rfl
    try simp only [Act.put, zzA, zzB, zzC, zzD, zzE, zzF]
    refine wpAnyY_oneW (i := 9) (by kernel_rfl) rfl (by kernel_rfl) (by kernel_rfl) (fun K9 hK9 => ?_)
    go_simp
    refine hK9.out _ _ ?_
    clear hK9
    try simp only [Act.put, zzA, zzB, zzC, zzD, zzE, zzF]
    refine wpAnyY_done (by kernel_rfl) ?_ _
    clear hS
    go_wp2_with fail
    first | exact HZ.out | (go_ret; exact HZ.out)
  · rw [← HCC.out] at hk hF
    have hen := HEN.out k hk
    have HF := Lib.hid hF
    have HZ := Lib.hid (HP2.out hq0 k hk)
    clear hk hF hd hq0 HP1 HP2 HEN HQU2 HBA
    refine hK4.out _ _ (gg.t hGc) (fun hS => ?_)
    replace gg := gg.t hGc
    clear hK4 hGc
    try simp only [Act.put, zzA, zzB, zzC, zzD, zzE, zzF]
    refine wpAnyY_take (i := 5) (v := ?_) rfl (by kernel_rfl) (by kernel_rfl) (by kernel_rfl) (by kernel_rfl) (fun _ _ _ h => h) (Or.inl ⟨by kernel_rfl, ?_⟩) hS ?_
    rotate_left
    · intro w' hSw; go_simp; with_reducible rfl
    try simp only [Act.put, zzA, zzB, zzC, zzD, zzE, zzF]
    refine wpAnyY_take (i := 6) (v := ?_) rfl (by kernel_rfl) (by kernel_rfl) (by kernel_rfl) (by kernel_rfl) (fun _ _ _ h => h) (Or.inl ⟨by kernel_rfl, ?_⟩) hS ?_
    rotate_left
    · intro w' hSw; go_simp; with_reducible rfl
    try simp only [Act.put, zzA, zzB, zzC, zzD, zzE, zzF]
    refine wpAnyY_take (i := 7) (v := ?_) rfl (by kernel_rfl) (by kernel_rfl) (by kernel_rfl) (by kernel_rfl) (fun _ _ _ h => h) (Or.inl ⟨by kernel_rfl, ?_⟩) hS ?_
    rotate_left
    · intro w' hSw; go_simp; with_reducible rfl
    try simp only [Act.put, zzA, zzB, zzC, zzD, zzE, zzF]
    refine wpAnyY_take (i := 8) (v := ?_) rfl (by kernel_rfl) (by kernel_rfl) (by kernel_rfl) (by kernel_rfl) (fun _ _ _ h => h) (Or.inl ⟨by kernel_rfl, ?_⟩) hS ?_
    rotate_left
    · intro w' hSw; go_simp; with_reducible rfl
    try simp only [Act.put, zzA, zzB, zzC, zzD, zzE, zzF]
    refine wpAnyY_oneW (i := 9) (by kernel_rfl) rfl (by kernel_rfl) (by kernel_rfl) (fun K9 hK9 => ?_)
    go_simp
    refine hK9.out _ _ ?_
    clear hK9
    try simp only [Act.put, zzA, zzB, zzC, zzD, zzE, zzF]
    refine wpAnyY_done (by kernel_rfl) ?_ _
    clear hS
    have HG := Lib.hid (g0.t gg)
    have hsz := Nat.le_trans lw gg.size
    have HEO := Lib.hid hen.ok
    have HEB := Lib.hid hen
    have c6 := HF.out.jt.c6
    have lJ := HF.out.jt.lt
    have hnp := HF.out.jt.np
    clear hen g0 gg b0
    obtain ⟨VV, hVV⟩ : ∃ VV : Nat → List (Int × Int), VV = fun q => (k.ps.take q).foldl (opnS k.ps bk) [] := ⟨_, rfl⟩
    have HVF : Hid (opnL k.ps bk = VV k.ps.length) := by rw [hVV]; show _ = List.foldl _ _ (List.take _ _); rw [List.take_length]; rfl
    have HVS : Hid (∀ q, q < k.ps.length → VV (q + 1) = opnS k.ps bk (VV q) (k.ps.getD q default)) := by rw [hVV]; exact fun q hq => opn_take k.ps bk hq
    have HV0 : Hid (VV 0 = []) := by rw [hVV]; exact rfl
    clear hVV
    rw [HVF.out] at HZ
    obtain ⟨n, hn⟩ : ∃ n, n = k.ps.length := ⟨_, rfl⟩
    rw [← hn] at c6 hnp HVS HZ
    have HN := Lib.hid hn
    clear hn
    obtain ⟨i0, hi0, hz0, hz1, hz2⟩ := info_parts info61
    go_upto_region 5 with fail
    go_wp2_with fail
    clear c6 lJ
    go_loopw [8, 29] (fun v i wr => ∃ q : Nat, q ≤ n ∧ i = .int .i64 q ∧ wr.ownsRow w8.heap.size 61 2 v (VV q).length (spV (VV q)) ∧ Hid (G w8 wr) ∧ Hid (SpB (VV q)) ∧ Hid ((VV q).length ≤ q)) (fun _ i _ => n - (intOf i).toNat)
    case atStart => exact ⟨0, Nat.zero_le _, rfl, by rw [HV0.out]; exact World.ownsRow_nil _ _ _ _, G.rf _, by rw [HV0.out]; intro s hs; simp at hs, by rw [HV0.out]; exact Nat.le_refl _⟩
    case round =>
      obtain ⟨q, hq, rfl, ho, HGI, HSB, HLQ⟩ := hrel
      obtain ⟨wo, rfl⟩ : ∃ wo, wo = wr := ⟨_, rfl⟩
      have HO := Lib.hid ho
      by_cases hlt : q < n
      · have hqi : (q : Int) < n := by omega
        have HVN := Lib.hid (HVS.out q hlt)
        have HSB2 : Hid (SpB (VV (q + 1))) := by
          show SpB _
          rw [HVN.out]
          have := HEB.out (k.ps.getD q default) (by have := HN.out; simp [List.getD, show q < k.ps.length by omega])
          exact opnS_spb HSB.out (by omega)
        have HLQ2 : Hid ((VV (q + 1)).length ≤ q + 1) := by
          show _ ≤ _
          rw [HVN.out]
          exact Nat.le_trans (opnS_len _ _ _ _) (by have := HLQ.out; omega)
        have hF8 := HF.out.keep HGI.out
        have hop := openings_any k.ps qa qc J P (k.ps.getD q default) (P q) wo hF8.jt.c6 hF8.jt.lt hF8.jt.rp hF8.jt.np (hF8.jt.rp.blk q (by have := HN.out; omega)) (HEO.out q (by have := HN.out; omega))
        have HOP := Lib.hid hop
        have HPB := Lib.hid (hF8.jt.rp.blk q (by have := HN.out; omega))
        rcases hF8.jt.rp.row with h9 | ⟨g, off, rfl, hg, hcell⟩
        · exact absurd HN.out (by omega)
        have q0 := hcell q (by have := HN.out; omega)
        have lg := hg
        clear hop hcell hF8 hg
        obtain ⟨p, hp⟩ : ∃ p, p = k.ps.getD q default := ⟨_, rfl⟩
        rw [← hp] at HVN HOP HPB
        clear hp
        have HVC : Hid (VV (q + 1) = if p.bk ≠ bk ∨ openL k.ps p > p.en - 1 then VV q else if VV q ≠ [] ∧ ((VV q).getLast?.getD (0, 0)).2 + 1 = openL k.ps p then (VV q).dropLast ++ [(((VV q).getLast?.getD (0, 0)).1, p.en - 1)] else VV q ++ [(openL k.ps p, p.en - 1)]) := HVN.out
        clear HVN
        have hpb0 : wo.cell? ⟨P q, 0, none⟩ = some (.int .i64 p.bk) := HPB.out.cell 0
        have hpl := HPB.out.lt
        have HPC := Lib.hid (fun (W : World) (hW : G wo W) => ((bcellB hW).1 (P q) 0 hpl).trans hpb0)
        clear HPB hpb0
        generalize openL k.ps p = L at *
        generalize p.en - 1 = E at *
        generalize p.bk = XB at *
        generalize P q = PQ at *
        go_upto_region 9 with (go_at_call 57; refine HOP.out.mono ?_; rintro e w3 ⟨rfl, hG3⟩)
        clear q0 lg HOP
        have bS : Blk (w3.alloc (.cells #[.int .i64 L, .int .i64 E] 61)) w3.heap.size 61 #[.int .i64 L, .int .i64 E] := Blk.new _ _ _
        have g4 : G wo (w3.alloc (.cells #[.int .i64 L, .int .i64 E] 61)) := hG3.a _
        change Code.wp _ _ _ _ (w3.alloc (.cells #[.int .i64 L, .int .i64 E] 61))
        obtain ⟨CB, hCB⟩ : ∃ CB, CB = w3.heap.size := ⟨_, rfl⟩
        rw [← hCB] at bS ⊢
        clear hCB
        generalize w3.alloc (.cells #[.int .i64 L, .int .i64 E] 61) = W4 at *
        have p0 := HPC.out W4 g4
        have lp := Nat.lt_of_lt_of_le hpl g4.size
        have HO4 := Lib.hid (own_G HO.out g4)
        have HG4 := Lib.hid (HGI.out.t g4)
        clear HPC hpl HO HGI g4 hG3 ho
        have s0 := bS.cell 0
        have s1 := bS.cell 1
        have lS := bS.lt
        by_cases h1 : XB = bk
        rotate_left
        · have HVA : Hid (VV (q + 1) = VV q) := by show _ = _; rw [HVC.out, if_pos (.inl h1)]
          clear HVC
          go_wp2_with fail
          go_roundw
          case rel => exact ⟨q + 1, by omega, by go_num, by rw [HVA.out]; exact HO4.out, HG4.out, HSB2.out, HLQ2.out⟩
          case measure => simp [intOf] <;> omega
        subst h1
        by_cases h2 : E < L
        · have HVA : Hid (VV (q + 1) = VV q) := by show _ = _; rw [HVC.out, if_pos (.inr h2)]
          clear HVC
          go_wp2_with fail
          go_roundw
          case rel => exact ⟨q + 1, by omega, by go_num, by rw [HVA.out]; exact HO4.out, HG4.out, HSB2.out, HLQ2.out⟩
          case measure => simp [intOf] <;> omega
        have HVD : Hid (VV (q + 1) = if VV q ≠ [] ∧ ((VV q).getLast?.getD (0, 0)).2 + 1 = L then (VV q).dropLast ++ [(((VV q).getLast?.getD (0, 0)).1, E)] else VV q ++ [(L, E)]) := by
          show _ = _
          rw [HVC.out, if_neg]
          rintro (h | h)
          · exact h rfl
          · exact h2 h
        clear HVC
        by_cases h3 : VV q = []
        · have HVA : Hid (VV (q + 1) = VV q ++ [(L, E)]) := by show _ = _; rw [HVD.out, if_neg (fun h => h.1 h3)]
          have HQ : Hid ((VV q).length = 0) := by rw [Hid, h3]; rfl
          obtain ⟨ra, rc, rfl⟩ := own_slice HO4.out
          rw [HQ.out] at HO4 ⊢
          clear HVD h3
          go_upto_region 11 with fail
          clear p0 lp s0 s1 lS
          refine wp_region_Y (S := fun W' => True) 12 13 rfl (by kernel_rfl) trivial (fun hS => ?_)
          replace bS := bS.drewN 1
          replace HO4 := Lib.hid (own_G HO4.out ((G.rf W4).d))
          replace HG4 := Lib.hid (HG4.out.d)
          replace bS : Blk W4.drew CB 61 #[.int .i64 L, .int .i64 E] := bS
          generalize W4.drew = W5 at *
          refine wpAnyY_take (i := 0) (v := ?_) rfl (by kernel_rfl) (by kernel_rfl) (by kernel_rfl) (by kernel_rfl) (fun _ _ _ h => h) (Or.inl ⟨by kernel_rfl, ?_⟩) hS ?_
          rotate_left
          · intro w' hSw; go_simp; with_reducible rfl
          try simp only [Act.put, zzA, zzB, zzC, zzD, zzE, zzF]
          refine wpAnyY_take (i := 1) (v := ?_) rfl (by kernel_rfl) (by kernel_rfl) (by kernel_rfl) (by kernel_rfl) (fun _ _ _ h => h) (Or.inl ⟨by kernel_rfl, ?_⟩) hS ?_
          rotate_left
          · intro w' hSw; go_simp; with_reducible rfl
          try simp only [Act.put, zzA, zzB, zzC, zzD, zzE, zzF]
          refine wpAnyY_take (i := 2) (v := ?_) rfl (by kernel_rfl) (by kernel_rfl) (by kernel_rfl) (by kernel_rfl) (fun _ _ _ h => h) (Or.inl ⟨by kernel_rfl, ?_⟩) hS ?_
          rotate_left
          · intro w' hSw; go_simp; with_reducible rfl
          try simp only [Act.put, zzA, zzB, zzC, zzD, zzE, zzF]
          refine wpAnyY_take (i := 3) (v := undef) rfl (by kernel_rfl) (by kernel_rfl) (by kernel_rfl) (by kernel_rfl) (fun _ _ _ h => h) (Or.inr ⟨by kernel_rfl, rfl⟩) hS ?_
          try simp only [Act.put, zzA, zzB, zzC, zzD, zzE, zzF]
          refine wpAnyY_take (i := 4) (v := undef) rfl (by kernel_rfl) (by kernel_rfl) (by kernel_rfl) (by kernel_rfl) (fun _ _ _ h => h) (Or.inr ⟨by kernel_rfl, rfl⟩) hS ?_
          try simp only [Act.put, zzA, zzB, zzC, zzD, zzE, zzF]
          refine wpAnyY_take (i := 5) (v := undef) rfl (by kernel_rfl) (by kernel_rfl) (by kernel_rfl) (by kernel_rfl) (fun _ _ _ h => h) (Or.inr ⟨by kernel_rfl, rfl⟩) hS ?_
          try simp only [Act.put, zzA, zzB, zzC, zzD, zzE, zzF]
          refine wpAnyY_take (i := 6) (v := undef) rfl (by kernel_rfl) (by kernel_rfl) (by kernel_rfl) (by kernel_rfl) (fun _ _ _ h => h) (Or.inr ⟨by kernel_rfl, rfl⟩) hS ?_
          try simp only [Act.put, zzA, zzB, zzC, zzD, zzE, zzF]
          refine wpAnyY_take (i := 7) (v := undef) rfl (by kernel_rfl) (by kernel_rfl) (by kernel_rfl) (by kernel_rfl) (fun _ _ _ h => h) (Or.inr ⟨by kernel_rfl, rfl⟩) hS ?_
          try simp only [Act.put, zzA, zzB, zzC, zzD, zzE, zzF]
          refine wpAnyY_take (i := 8) (v := undef) rfl (by kernel_rfl) (by kernel_rfl) (by kernel_rfl) (by kernel_rfl) (fun _ _ _ h => h) (Or.inr ⟨by kernel_rfl, rfl⟩) hS ?_
          try simp only [Act.put, zzA, zzB, zzC, zzD, zzE, zzF]
          refine wpAnyY_take (i := 9) (v := undef) rfl (by kernel_rfl) (by kernel_rfl) (by kernel_rfl) (by kernel_rfl) (fun _ _ _ h => h) (Or.inr ⟨by kernel_rfl, rfl⟩) hS ?_
          try simp only [Act.put, zzA, zzB, zzC, zzD, zzE, zzF]
          refine wpAnyY_take (i := 10) (v := undef) rfl (by kernel_rfl) (by kernel_rfl) (by kernel_rfl) (by kernel_rfl) (fun _ _ _ h => h) (Or.inr ⟨by kernel_rfl, rfl⟩) hS ?_
          try simp only [Act.put, zzA, zzB, zzC, zzD, zzE, zzF]
          refine wpAnyY_take (i := 11) (v := undef) rfl (by kernel_rfl) (by kernel_rfl) (by kernel_rfl) (by kernel_rfl) (fun _ _ _ h => h) (Or.inr ⟨by kernel_rfl, rfl⟩) hS ?_
          try simp only [Act.put, zzA, zzB, zzC, zzD, zzE, zzF]
          refine wpAnyY_oneW (i := 12) (by kernel_rfl) rfl (by kernel_rfl) (by kernel_rfl) (fun K12 hK12 => ?_)
          go_simp
          refine hK12.out _ _ ?_
          clear hK12
          try simp only [Act.put, zzA, zzB, zzC, zzD, zzE, zzF]
          refine wpAnyY_done (by kernel_rfl) ?_ _
          clear hS
          have s0 := bS.cell 0
          have s1 := bS.cell 1
          have lS := bS.lt
          go_wp2_with (at_builtin; refine wpList_append_own _ rfl _ _ 46 rfl w8.heap.size 61 i0 (.agg #[.int .i64 0, .int .i64 0]) 2 16 Tryz.underlying46 hi0 hz0 hz1 hz2 rfl (by decide) (.slice ra 0 rc) 0 (spV (VV q)) rfl ?hown ⟨_, 0, none⟩ 1 1 [.int .i64 L, .int .i64 E] rfl rfl (cell_new8 _ _ _) (by simp [Value.oneCell']) (by have := HLQ.out; unfold maxLen; omega) (by have := HLQ.out; omega) ?hbase ?hrest)
          case hown => exact own_G HO4.out ((G.rf _).a _)
          case hbase => exact Nat.le_trans HG4.out.size (Nat.le_succ _)
          case hrest =>
            intro v9 w9 hown9 hg9 _
            have gz : G w8 w9 := grow_own (HG4.out.a _) (own_G HO4.out ((G.rf _).a _)) (Nat.le_refl _) hg9
            have HN9 := Lib.hid hown9
            clear hown9 hg9
            go_wp2
            go_roundw
            case rel => exact ⟨q + 1, by omega, by go_num, by rw [HVA.out, spV_snoc, List.length_append, HQ.out]; exact HN9.out, gz, HSB2.out, HLQ2.out⟩
            case measure => simp [intOf] <;> omega
        obtain ⟨T, a, b, hT⟩ : ∃ T a b, VV q = T ++ [(a, b)] := by
          obtain ⟨T, x, hx⟩ : ∃ T x, VV q = T ++ [x] := ⟨(VV q).dropLast, (VV q).getLast h3, (List.dropLast_concat_getLast h3).symm⟩
          exact ⟨T, x.1, x.2, hx⟩
        have hlast : (VV q).getLast?.getD (0, 0) = (a, b) := by rw [hT]; simp
        have hdrop : (VV q).dropLast = T := by rw [hT]; simp
        have HQ : Hid ((VV q).length = T.length + 1) := by rw [Hid, hT]; simp
        have HVE : Hid (VV (q + 1) = if b + 1 = L then T ++ [(a, E)] else VV q ++ [(L, E)]) := by
          show _ = _
          rw [HVD.out, hlast, hdrop]
          by_cases c : b + 1 = L
          · rw [if_pos ⟨h3, c⟩, if_pos c]
          · rw [if_neg (fun h => c h.2), if_neg c]
        have hbb : -100000 ≤ b ∧ b ≤ 100000 := HSB.out (a, b) (by rw [hT]; simp)
        have HT := Lib.hid hT
        clear HVD hlast hdrop h3
        obtain ⟨ra, rc, rfl⟩ := own_slice HO4.out
        rw [HQ.out] at HO4 ⊢
        have HO5 := HO4.out
        rw [hT] at HO5
        clear hT
        rcases HO5.2 with ⟨hv, _⟩ | ⟨g, cap, cur, hv, _⟩
        · cases hv
        cases hv
        obtain ⟨k0, k1, k2, k3⟩ := sp_cell HO5
        have x3 : IntKind.i64.wrap (b + 1) = b + 1 := by rw [IntWalk.i64_in _ (by omega)]
        have htq : T.length + 1 ≤ q := by have := HLQ.out; have := HQ.out; omega
        obtain ⟨tl, htl⟩ : ∃ tl, tl = T.length := ⟨_, rfl⟩
        rw [← htl] at k0 k1 HQ HO4 htq ⊢
        have HTL := Lib.hid htl
        obtain ⟨nn, hnn⟩ : ∃ nn, nn = tl + 1 := ⟨_, rfl⟩
        have x1 : IntKind.i64.wrap ((nn : Int) - 1) = (tl : Nat) := by rw [IntWalk.i64_in _ (by omega)]; omega
        have x2 : IntKind.i64.wrap (((nn - 1 : Nat)) : Int) = (tl : Nat) := by rw [IntWalk.i64_in _ (by omega)]; omega
        have hti : (tl : Int) < nn := by omega
        have htn : tl < nn := by omega
        rw [← hnn] at HQ HO4 htq ⊢
        have HNN := Lib.hid hnn
        clear htl hnn HO5
        go_upto_region 11 with fail
        clear p0 lp s0 s1 lS x1 x2
        have HK := Lib.hid (fun (W : World) (hW : G W4 W) => ((bcellB hW).1 g (tl * 2 + 1) k2).trans k0)
        by_cases h4 : b + 1 = L
        · have HVA : Hid (VV (q + 1) = T ++ [(a, E)]) := by show _ = _; rw [HVE.out, if_pos h4]
          have h4b : (b + 1 == L) = true := by simpa using h4
          clear HVE h4
          refine wp_region_Y (S := fun W' => Blk W' CB 61 #[.int .i64 L, .int .i64 E] ∧ W'.cell? ⟨g, tl * 2 + 1, none⟩ = some (.int .i64 b) ∧ g < W'.heap.size) 12 13 rfl (by kernel_rfl) ⟨bS.drewN 1, k0, k2⟩ (fun hS => ?_)
          replace bS : Blk W4.drew CB 61 #[.int .i64 L, .int .i64 E] := bS.drewN 1
          replace HO4 := Lib.hid (own_G HO4.out ((G.rf W4).d))
          replace HG4 := Lib.hid (HG4.out.d)
          replace k1 : W4.drew.frozen? ⟨g, tl * 2 + 1, none⟩ = false := k1
          replace k0 : W4.drew.cell? ⟨g, tl * 2 + 1, none⟩ = some (.int .i64 b) := k0
          replace k2 : g < W4.drew.heap.size := k2
          clear HK
          generalize W4.drew = W5 at *
          refine wpAnyY_take (i := 0) (v := ?_) rfl (by kernel_rfl) (by kernel_rfl) (by kernel_rfl) (by kernel_rfl) (fun _ _ _ h => h) (Or.inl ⟨by kernel_rfl, ?_⟩) hS ?_
          rotate_left
          · intro w' hSw; go_simp; with_reducible rfl
          try simp only [Act.put, zzA, zzB, zzC, zzD, zzE, zzF]
          refine wpAnyY_take (i := 1) (v := ?_) rfl (by kernel_rfl) (by kernel_rfl) (by kernel_rfl) (by kernel_rfl) (fun _ _ _ h => h) (Or.inl ⟨by kernel_rfl, ?_⟩) hS ?_
          rotate_left
          · intro w' hSw; go_simp; with_reducible rfl
          try simp only [Act.put, zzA, zzB, zzC, zzD, zzE, zzF]
          refine wpAnyY_take (i := 2) (v := ?_) rfl (by kernel_rfl) (by kernel_rfl) (by kernel_rfl) (by kernel_rfl) (fun _ _ _ h => h) (Or.inl ⟨by kernel_rfl, ?_⟩) hS ?_
          rotate_left
          · intro w' hSw; go_simp; with_reducible rfl
          try simp only [Act.put, zzA, zzB, zzC, zzD, zzE, zzF]
          refine wpAnyY_take (i := 3) (v := ?_) rfl (by kernel_rfl) (by kernel_rfl) (by kernel_rfl) (by kernel_rfl) (fun _ _ _ h => h) (Or.inl ⟨by kernel_rfl, ?_⟩) hS ?_
          rotate_left
          · intro w' hSw; go_simp; with_reducible rfl
          try simp only [Act.put, zzA, zzB, zzC, zzD, zzE, zzF]
          refine wpAnyY_take (i := 4) (v := ?_) rfl (by kernel_rfl) (by kernel_rfl) (by kernel_rfl) (by kernel_rfl) (fun _ _ _ h => h) (Or.inl ⟨by kernel_rfl, ?_⟩) hS ?_
          rotate_left
          · intro w' hSw; go_simp; with_reducible rfl
          try simp only [Act.put, zzA, zzB, zzC, zzD, zzE, zzF]
          refine wpAnyY_take (i := 5) (v := ?_) rfl (by kernel_rfl) (by kernel_rfl) (by kernel_rfl) (by kernel_rfl) (fun _ _ _ h => h) (Or.inl ⟨by kernel_rfl, ?_⟩) hS ?_
          rotate_left
          · intro w' hSw; go_simp; with_reducible rfl
          try simp only [Act.put, zzA, zzB, zzC, zzD, zzE, zzF]
          refine wpAnyY_take (i := 6) (v := ?_) rfl (by kernel_rfl) (by kernel_rfl) (by kernel_rfl) (by kernel_rfl) (fun _ _ _ h => h) (Or.inl ⟨by kernel_rfl, ?_⟩) hS ?_
          rotate_left
          · intro w' hSw; go_simp; with_reducible rfl
          try simp only [Act.put, zzA, zzB, zzC, zzD, zzE, zzF]
          refine wpAnyY_take (i := 7) (v := ?_) rfl (by kernel_rfl) (by kernel_rfl) (by kernel_rfl) (by kernel_rfl) (fun _ _ _ h => h) (Or.inl ⟨by kernel_rfl, ?_⟩) hS ?_
          rotate_left
          · intro w' hSw; obtain ⟨t1, t2, t3⟩ := hSw; have r0 := t1.cell 0; have r1 := t1.cell 1; have rl := t1.lt; go_simp; with_reducible rfl
          try simp only [Act.put, zzA, zzB, zzC, zzD, zzE, zzF]
          refine wpAnyY_take (i := 8) (v := ?_) rfl (by kernel_rfl) (by kernel_rfl) (by kernel_rfl) (by kernel_rfl) (fun _ _ _ h => h) (Or.inl ⟨by kernel_rfl, ?_⟩) hS ?_
          rotate_left
          · intro w' hSw; go_simp; with_reducible rfl
          try simp only [Act.put, zzA, zzB, zzC, zzD, zzE, zzF]
          refine wpAnyY_take (i := 9) (v := ?_) rfl (by kernel_rfl) (by kernel_rfl) (by kernel_rfl) (by kernel_rfl) (fun _ _ _ h => h) (Or.inl ⟨by kernel_rfl, ?_⟩) hS ?_
          rotate_left
          · intro w' hSw; go_simp; with_reducible rfl
          try simp only [Act.put, zzA, zzB, zzC, zzD, zzE, zzF]
          refine wpAnyY_take (i := 10) (v := ?_) rfl (by kernel_rfl) (by kernel_rfl) (by kernel_rfl) (by kernel_rfl) (fun _ _ _ h => h) (Or.inl ⟨by kernel_rfl, ?_⟩) hS ?_
          rotate_left
          · intro w' hSw; obtain ⟨t1, t2, t3⟩ := hSw; have r0 := t1.cell 0; have r1 := t1.cell 1; have rl := t1.lt; go_simp; with_reducible rfl
          try simp only [Act.put, zzA, zzB, zzC, zzD, zzE, zzF]
          refine wpAnyY_take (i := 11) (v := ?_) rfl (by kernel_rfl) (by kernel_rfl) (by kernel_rfl) (by kernel_rfl) (fun _ _ _ h => h) (Or.inl ⟨by kernel_rfl, ?_⟩) hS ?_
          rotate_left
          · intro w' hSw; go_simp; with_reducible rfl
          try simp only [Act.put, zzA, zzB, zzC, zzD, zzE, zzF]
          refine wpAnyY_oneW (i := 12) (by kernel_rfl) rfl (by kernel_rfl) (by kernel_rfl) (fun K12 hK12 => ?_)
          go_simp
          refine hK12.out _ _ ?_
          clear hK12
          try simp only [Act.put, zzA, zzB, zzC, zzD, zzE, zzF]
          refine wpAnyY_done (by kernel_rfl) ?_ _
          clear hS
          have s1 := bS.cell 1
          have lS := bS.lt
          go_wp2_with fail
          have hput := sp_put (T := T) (a := a) (b := b) (g := g) (cap := rc) (W := W5) (B := w8.heap.size) E (by rw [← HT.out, ← HTL.out, ← HNN.out]; exact HO4.out)
          rw [← HTL.out, ← HNN.out] at hput
          go_roundw
          case rel => exact ⟨q + 1, by omega, by go_num, by rw [HVA.out, List.length_append, List.length_singleton, ← HTL.out, ← HNN.out]; exact hput, HG4.out.s (p := ⟨g, tl * 2 + 1, none⟩) k3 _, HSB2.out, HLQ2.out⟩
          case measure => simp [intOf] <;> omega
        · have HVA : Hid (VV (q + 1) = VV q ++ [(L, E)]) := by show _ = _; rw [HVE.out, if_neg h4]
          have h4b : (b + 1 == L) = false := by simpa using h4
          clear HVE
          refine wp_region_Y (S := fun W' => Blk W' CB 61 #[.int .i64 L, .int .i64 E] ∧ W'.cell? ⟨g, tl * 2 + 1, none⟩ = some (.int .i64 b) ∧ g < W'.heap.size) 12 13 rfl (by kernel_rfl) ⟨bS.drewN 1, k0, k2⟩ (fun hS => ?_)
          replace bS : Blk W4.drew CB 61 #[.int .i64 L, .int .i64 E] := bS.drewN 1
          replace HO4 := Lib.hid (own_G HO4.out ((G.rf W4).d))
          replace HG4 := Lib.hid (HG4.out.d)
          clear HK k0 k1 k2
          generalize W4.drew = W5 at *
          refine wpAnyY_take (i := 0) (v := ?_) rfl (by kernel_rfl) (by kernel_rfl) (by kernel_rfl) (by kernel_rfl) (fun _ _ _ h => h) (Or.inl ⟨by kernel_rfl, ?_⟩) hS ?_
          rotate_left
          · intro w' hSw; go_simp; with_reducible rfl
          try simp only [Act.put, zzA, zzB, zzC, zzD, zzE, zzF]
          refine wpAnyY_take (i := 1) (v := ?_) rfl (by kernel_rfl) (by kernel_rfl) (by kernel_rfl) (by kernel_rfl) (fun _ _ _ h => h) (Or.inl ⟨by kernel_rfl, ?_⟩) hS ?_
          rotate_left
          · intro w' hSw; go_simp; with_reducible rfl
          try simp only [Act.put, zzA, zzB, zzC, zzD, zzE, zzF]
          refine wpAnyY_take (i := 2) (v := ?_) rfl (by kernel_rfl) (by kernel_rfl) (by kernel_rfl) (by kernel_rfl) (fun _ _ _ h => h) (Or.inl ⟨by kernel_rfl, ?_⟩) hS ?_
          rotate_left
          · intro w' hSw; go_simp; with_reducible rfl
          try simp only [Act.put, zzA, zzB, zzC, zzD, zzE, zzF]
          refine wpAnyY_take (i := 3) (v := ?_) rfl (by kernel_rfl) (by kernel_rfl) (by kernel_rfl) (by kernel_rfl) (fun _ _ _ h => h) (Or.inl ⟨by kernel_rfl, ?_⟩) hS ?_
          rotate_left
          · intro w' hSw; go_simp; with_reducible rfl
          try simp only [Act.put, zzA, zzB, zzC, zzD, zzE, zzF]
          refine wpAnyY_take (i := 4) (v := ?_) rfl (by kernel_rfl) (by kernel_rfl) (by kernel_rfl) (by kernel_rfl) (fun _ _ _ h => h) (Or.inl ⟨by kernel_rfl, ?_⟩) hS ?_
          rotate_left
          · intro w' hSw; go_simp; with_reducible rfl
          try simp only [Act.put, zzA, zzB, zzC, zzD, zzE, zzF]
          refine wpAnyY_take (i := 5) (v := ?_) rfl (by kernel_rfl) (by kernel_rfl) (by kernel_rfl) (by kernel_rfl) (fun _ _ _ h => h) (Or.inl ⟨by kernel_rfl, ?_⟩) hS ?_
          rotate_left
          · intro w' hSw; go_simp; with_reducible rfl
          try simp only [Act.put, zzA, zzB, zzC, zzD, zzE, zzF]
          refine wpAnyY_take (i := 6) (v := ?_) rfl (by kernel_rfl) (by kernel_rfl) (by kernel_rfl) (by kernel_rfl) (fun _ _ _ h => h) (Or.inl ⟨by kernel_rfl, ?_⟩) hS ?_
          rotate_left
          · intro w' hSw; go_simp; with_reducible rfl
          try simp only [Act.put, zzA, zzB, zzC, zzD, zzE, zzF]
          refine wpAnyY_take (i := 7) (v := ?_) rfl (by kernel_rfl) (by kernel_rfl) (by kernel_rfl) (by kernel_rfl) (fun _ _ _ h => h) (Or.inl ⟨by kernel_rfl, ?_⟩) hS ?_
          rotate_left
          · intro w' hSw; obtain ⟨t1, t2, t3⟩ := hSw; have r0 := t1.cell 0; have r1 := t1.cell 1; have rl := t1.lt; go_simp; with_reducible rfl
          try simp only [Act.put, zzA, zzB, zzC, zzD, zzE, zzF]
          refine wpAnyY_take (i := 8) (v := ?_) rfl (by kernel_rfl) (by kernel_rfl) (by kernel_rfl) (by kernel_rfl) (fun _ _ _ h => h) (Or.inl ⟨by kernel_rfl, ?_⟩) hS ?_
          rotate_left
          · intro w' hSw; go_simp; with_reducible rfl
          try simp only [Act.put, zzA, zzB, zzC, zzD, zzE, zzF]
          refine wpAnyY_take (i := 9) (v := ?_) rfl (by kernel_rfl) (by kernel_rfl) (by kernel_rfl) (by kernel_rfl) (fun _ _ _ h => h) (Or.inl ⟨by kernel_rfl, ?_⟩) hS ?_
          rotate_left
          · intro w' hSw; go_simp; with_reducible rfl
          try simp only [Act.put, zzA, zzB, zzC, zzD, zzE, zzF]
          refine wpAnyY_take (i := 10) (v := ?_) rfl (by kernel_rfl) (by kernel_rfl) (by kernel_rfl) (by kernel_rfl) (fun _ _ _ h => h) (Or.inl ⟨by kernel_rfl, ?_⟩) hS ?_
          rotate_left
          · intro w' hSw; obtain ⟨t1, t2, t3⟩ := hSw; have r0 := t1.cell 0; have r1 := t1.cell 1; have rl := t1.lt; go_simp; with_reducible rfl
          try simp only [Act.put, zzA, zzB, zzC, zzD, zzE, zzF]
          refine wpAnyY_take (i := 11) (v := ?_) rfl (by kernel_rfl) (by kernel_rfl) (by kernel_rfl) (by kernel_rfl) (fun _ _ _ h => h) (Or.inl ⟨by kernel_rfl, ?_⟩) hS ?_
          rotate_left
          · intro w' hSw; go_simp; with_reducible rfl
          try simp only [Act.put, zzA, zzB, zzC, zzD, zzE, zzF]
          refine wpAnyY_oneW (i := 12) (by kernel_rfl) rfl (by kernel_rfl) (by kernel_rfl) (fun K12 hK12 => ?_)
          go_simp
          refine hK12.out _ _ ?_
          clear hK12
          try simp only [Act.put, zzA, zzB, zzC, zzD, zzE, zzF]
          refine wpAnyY_done (by kernel_rfl) ?_ _
          clear hS
          have s0 := bS.cell 0
          have s1 := bS.cell 1
          have lS := bS.lt
          go_wp2_with (at_builtin; refine wpList_append_own _ rfl _ _ 46 rfl w8.heap.size 61 i0 (.agg #[.int .i64 0, .int .i64 0]) 2 16 Tryz.underlying46 hi0 hz0 hz1 hz2 rfl (by decide) (.slice (some ⟨g, 0, none⟩) nn rc) nn (spV (VV q)) rfl ?hown ⟨_, 0, none⟩ 1 1 [.int .i64 L, .int .i64 E] rfl rfl (cell_new8 _ _ _) (by simp [Value.oneCell']) (by have := HLQ.out; unfold maxLen; omega) (by have := HLQ.out; omega) ?hbase ?hrest)
          case hown => exact own_G HO4.out ((G.rf _).a _)
          case hbase => exact Nat.le_trans HG4.out.size (Nat.le_succ _)
          case hrest =>
            intro v9 w9 hown9 hg9 _
            have gz : G w8 w9 := grow_own (HG4.out.a _) (own_G HO4.out ((G.rf _).a _)) (Nat.le_refl _) hg9
            have HN9 := Lib.hid hown9
            clear hown9 hg9
            go_wp2
            go_roundw
            case rel => exact ⟨q + 1, by omega, by go_num, by rw [HVA.out, spV_snoc, List.length_append, HQ.out]; exact HN9.out, gz, HSB2.out, HLQ2.out⟩
            case measure => simp [intOf] <;> omega
      · obtain rfl : q = n := by omega
        have hki : ¬ ((q : Nat) : Int) < q := by omega
        have HQ2 := Lib.hid (HZ.out wo _ (own_weaken HO.out hsz) (HG.out.t HGI.out))
        clear HZ HO ho HSB HLQ HVS
        go_wp2_with fail
        first | exact HQ2.out | (go_ret; exact HQ2.out)
end Go.Proofs.YtabnpimidhlbiaaGreat

set_option linter.unusedSimpArgs false
set_option linter.unusedVariables false
namespace Go.Proofs.YtabnpimidhlbiaaGreat
open Go.RowKit Go.Shelf Go.Sort
attribute [local go_sem] Oper.semAt_some
/-- was a bird marked by two of some members? -/
def mrkB (ms : List Int) (b : Int) (a : Ac) : Bool := (a.kd == 1) && ((a.bd == b) && (inL ms a.m1 && inL ms a.m2))
set_option maxRecDepth 100000 in
set_option maxHeartbeats 8000000 in
theorem mark2_any (ms : List Int) (b : Int) (a : Ac) (ma : Option Addr) (mc BB MB : Nat) (w : World) (hB : Blk w BB 3 #[.int .i64 b]) (hM : Blk w MB 26 #[.slice ma ms.length mc]) (hm : IntsAt w ma ms) (hn : ms.length ≤ 1000) :
    Calls Tryz.prog 43 #[.agg a.v, .pointer (some ⟨BB, 0, none⟩), .pointer (some ⟨MB, 0, none⟩)] w fun e w' => e = .returned (.bool (mrkB ms b a)) ∧ G w w' := by
  unfold mrkB
  obtain ⟨yid, ytm, ykd, ybk, ybd, ym1, ym2, ysl⟩ := a
  unfold Ac.v at *
  dsimp only at *
  have HC1 := Lib.hid (fun (W : World) (hW : G w W) => contains_any ms ma mc ym1 W (hm.below hW) hn)
  have HC2 := Lib.hid (fun (W : World) (hW : G w W) => contains_any ms ma mc ym2 W (hm.below hW) hn)
  clear hm
  generalize inL ms ym1 = R1 at *
  generalize inL ms ym2 = R2 at *
  generalize ms.length = n at *
  have g0 : G w (w.alloc (.cells #[.int .i64 yid, .int .i64 ytm, .int .i64 ykd, .int .i64 ybk, .int .i64 ybd, .int .i64 ym1, .int .i64 ym2, .int .i64 ysl] 54)) := (G.rf _).a _
  have bA : Blk (w.alloc (.cells #[.int .i64 yid, .int .i64 ytm, .int .i64 ykd, .int .i64 ybk, .int .i64 ybd, .int .i64 ym1, .int .i64 ym2, .int .i64 ysl] 54)) w.heap.size 54 #[.int .i64 yid, .int .i64 ytm, .int .i64 ykd, .int .i64 ybk, .int .i64 ybd, .int .i64 ym1, .int .i64 ym2, .int .i64 ysl] := Blk.new _ _ _
  have bB := hB.keep g0
  have bM := hM.keep g0
  clear hB hM
  have n2 := bA.cell 2
  have n4 := bA.cell 4
  have n5 := bA.cell 5
  have n6 := bA.cell 6
  have lA := bA.lt
  have b0 := bB.cell 0
  have lB := bB.lt
  have m0 := bM.cell 0
  have lM := bM.lt
  have HK := Lib.hid (fun (W : World) (hW : G (w.alloc (.cells #[.int .i64 yid, .int .i64 ytm, .int .i64 ykd, .int .i64 ybk, .int .i64 ybd, .int .i64 ym1, .int .i64 ym2, .int .i64 ysl] 54)) W) => And.intro (bA.keep hW) (And.intro (bB.keep hW) (bM.keep hW)))
  by_cases h1 : ykd = 1
  · subst h1
    by_cases h2 : ybd = b
    · subst h2
      cases R1
      · go_enter Tryz.func43, Tryz.ntmps43
        go_wp2_with (go_at_call 44; refine (HC1.out _ g0).mono ?_; rintro e w1 ⟨rfl, hG1⟩)
        first | exact ⟨by simp, g0.t hG1⟩ | (go_ret; exact ⟨by simp, g0.t hG1⟩)
      · go_enter Tryz.func43, Tryz.ntmps43
        go_wp2_with (first | (go_at_call 44; refine (HC1.out _ g0).mono ?_; rintro e w1 ⟨rfl, hG1⟩; clear HC1 n2 n4 n5 n6 lA b0 lB m0 lM; have n6 := (bA.keep hG1).cell 6; have lA := (bA.keep hG1).lt; have m0 := (bM.keep hG1).cell 0; have lM := (bM.keep hG1).lt) | (go_at_call 44; refine (HC2.out _ (g0.t hG1)).mono ?_; rintro e w2 ⟨rfl, hG2⟩))
        first | exact ⟨by simp, g0.t (hG1.t hG2)⟩ | (go_ret; exact ⟨by simp, g0.t (hG1.t hG2)⟩)
    · have h2b : (ybd == b) = false := by simpa using h2
      go_enter Tryz.func43, Tryz.ntmps43
      go_wp2_with fail
      first | exact ⟨by rw [h2b]; rfl, g0⟩ | (go_ret; exact ⟨by rw [h2b]; rfl, g0⟩)
  · have h1b : (ykd == 1) = false := by simpa using h1
    go_enter Tryz.func43, Tryz.ntmps43
    go_wp2_with fail
    first | exact ⟨by rw [h1b]; rfl, g0⟩ | (go_ret; exact ⟨by rw [h1b]; rfl, g0⟩)
def mrkP (ms : List Int) (past : List Ac) (b : Int) : Bool := anyU (fun i => mrkB ms b (past.getD i default)) past.length
theorem mark1_any {J : Nat} {past : List Ac} {ps : List Pe} {P : Nat → Nat} {pa : Option Addr} {pc : Nat} {qa : Option Addr} {qc : Nat} (ms : List Int) (b : Int) (ma : Option Addr) (mc JB MB : Nat) (w : World) (h : JAt w J past ps P pa pc qa qc) (hJ : Blk w JB 71 #[.pointer (some ⟨J, 0, none⟩)]) (hM : Blk w MB 26 #[.slice ma ms.length mc]) (hm : IntsAt w ma ms) (hn : ms.length ≤ 1000) :
    Calls Tryz.prog 41 #[.int .i64 b, .pointer (some ⟨JB, 0, none⟩), .pointer (some ⟨MB, 0, none⟩)] w fun e w' => e = .returned (.bool (mrkP ms past b)) ∧ G w w' := by
  have g0 : G w (w.alloc (.cells #[.int .i64 b] 3)) := (G.rf _).a _
  have bB : Blk (w.alloc (.cells #[.int .i64 b] 3)) w.heap.size 3 #[.int .i64 b] := Blk.new _ _ _
  have HC := Lib.hid (CtAc_any 43 (enters_of Tryz.func43 (by kernel_rfl) rfl) #[.pointer (some ⟨w.heap.size, 0, none⟩), .pointer (some ⟨MB, 0, none⟩)] (w.alloc (.cells #[.int .i64 b] 3)) pa pc past (fun i => mrkB ms b (past.getD i default)) h.na (h.ra.below g0) (fun W' hW i hi => mark2_any ms b (past.getD i default) ma mc w.heap.size MB W' (bB.keep hW) (hM.keep (g0.t hW)) (hm.below (g0.t hW)) hn))
  unfold mrkP
  generalize anyU (fun i => mrkB ms b (past.getD i default)) past.length = R at *
  have c5 := ((bcellB g0).1 J 5 h.lt).trans h.c5
  have lJ := Nat.lt_of_lt_of_le h.lt g0.size
  have m0 := (hJ.keep g0).cell 0
  have l0 := (hJ.keep g0).lt
  clear h hJ hM hm hn bB
  go_enter Tryz.func41, Tryz.ntmps41
  go_wp2_with (go_at_call 42; refine HC.out.mono ?_; rintro e w1 ⟨rfl, hG1⟩)
  first | exact ⟨rfl, g0.t hG1⟩ | (go_ret; exact ⟨rfl, g0.t hG1⟩)
end Go.Proofs.YtabnpimidhlbiaaGreat

set_option linter.unusedSimpArgs false
set_option linter.unusedVariables false
namespace Go.Proofs.YtabnpimidhlbiaaGreat
open Go.RowKit Go.Shelf Go.Sort
attribute [local go_sem] Oper.semAt_some
def mrkD (ms : List Int) : Bool := decide (ms.length ≤ 20) && allU (fun i => upB (ms.getD i 0) 99) ms.length
def mrkL (ms : List Int) (past : List Ac) (N : Nat) : List Int := numL (fun b => mrkP ms past (b : Int)) N
/-- what Marked answers -/
def MrkPost (c : Cv) (ms : List Int) (w : World) (e : Ending) (w' : World) : Prop :=
  ∃ v l, e = .returned (.tuple #[v, .int .i64 (qErr c (mrkD ms))]) ∧ w'.ownsRow w.heap.size 3 1 v l.length (iv l) ∧ G w w' ∧
    (qErr c (mrkD ms) ≠ 0 → l = []) ∧ (qErr c (mrkD ms) = 0 → ∀ k, folJ c = some k → l = mrkL ms k.past c.bds.toNat)
set_option maxRecDepth 100000 in
set_option maxHeartbeats 8000000 in
theorem Marked_any (c : Cv) (ms : List Int) (ma : Option Addr) (mc : Nat) (w : World) (h : c.At w) (hms : IntsAt w ma ms) (hml : ms.length ≤ 1000) : Calls Tryz.prog 13 #[.agg c.v, .slice ma ms.length mc] w (MrkPost c ms w) := by
  have HEA := Lib.hid (fun (W : World) (hW : G w W) => eachInt_any 39 (enters_of Tryz.func39 (by kernel_rfl) rfl) #[] W ma mc ms (fun i => upB (ms.getD i 0) 99) hml (hms.below hW) (fun W' hW' i hi => by
    have e := member_any (ms.getD i 0) W'
    simpa using e))
  have HQU := Lib.hid (fun (d : Bool) (W : World) (hW : G w W) => question_any c d W (h.keep hW))
  obtain ⟨QE, hQE⟩ : ∃ QE, QE = qErr c (mrkD ms) := ⟨_, rfl⟩
  have HP1 : Hid (QE ≠ 0 → ∀ w', G w w' → MrkPost c ms w (.returned (.tuple #[.slice none 0 0, .int .i64 QE])) w') := fun h1 w' hG =>
    ⟨_, [], by rw [hQE], World.ownsRow_nil _ _ _ _, hG, fun _ => rfl, fun e => absurd (hQE.trans e) h1⟩
  have HP2 : Hid (QE = 0 → ∀ k, folJ c = some k → ∀ w' v, w'.ownsRow w.heap.size 3 1 v (mrkL ms k.past c.bds.toNat).length (iv (mrkL ms k.past c.bds.toNat)) → G w w' → MrkPost c ms w (.returned (.tuple #[v, .int .i64 0])) w') := fun h1 k hk w' v ho hG =>
    ⟨v, _, by rw [← hQE, h1], ho, hG, fun e => absurd (hQE.symm.trans h1) e, fun _ k2 hk2 => by
      have e2 := hk.symm.trans hk2
      cases e2
      rfl⟩
  have HBD : Hid (∀ k : Jn, folJ c = some k → c.bds = ((c.bds.toNat : Nat) : Int) ∧ c.bds.toNat ≤ 12) := fun k hk => by
    have := vcB_act (folJ_some hk).1
    omega
  have HMK := Lib.hid (fun (k : Jn) (W : World) (hW : G w W) (J m : Nat) (P : Nat → Nat) (pa : Option Addr) (pc : Nat) (qa : Option Addr) (qc : Nat) (hF : FolAt c k W J m P pa pc qa qc) (b : Int) (JB MB : Nat) (hJ : Blk W JB 71 #[.pointer (some ⟨J, 0, none⟩)]) (hM : Blk W MB 26 #[.slice ma ms.length mc]) => mark1_any ms b ma mc JB MB W hF.jt hJ hM (hms.below hW) hml)
  generalize MrkPost c ms w = PP at *
  clear h hms
  obtain ⟨ND, hND⟩ : ∃ ND, ND = c.bds.toNat := ⟨_, rfl⟩
  rw [← hND] at HP2 HBD
  clear hND
  obtain ⟨M, hM⟩ : ∃ M, M = decide (ms.length ≤ 20) := ⟨_, rfl⟩
  obtain ⟨K, hK⟩ : ∃ K, K = allU (fun i => upB (ms.getD i 0) 99) ms.length := ⟨_, rfl⟩
  have hD : mrkD ms = (M && K) := by rw [hM, hK]; rfl
  rw [← hK] at HEA
  rw [hD] at hQE
  clear hK hD
  have HQU2 := Lib.hid (fun (W : World) (hW : G w W) => HQU.out (M && K) W hW)
  unfold QuPost at HQU2
  rw [← hQE] at HQU2
  clear hQE HQU
  obtain ⟨CC, hCC⟩ : ∃ CC, CC = c := ⟨_, rfl⟩
  rw [← hCC] at HP2 HBD HMK
  have HCC := Lib.hid hCC
  clear hCC
  obtain ⟨cbks, cbds, caa, cac, cacts, cda, cdc, cduties, cen⟩ := c
  unfold Cv.v at *
  dsimp only at *
  obtain ⟨g0, b0, b1⟩ := box2 w #[.int .i64 cbks, .int .i64 cbds, .slice caa cacts.length cac, .slice cda cduties.length cdc, .int .i64 cen] #[.slice ma ms.length mc] 25 26
  obtain ⟨n, hn⟩ : ∃ n, n = ms.length := ⟨_, rfl⟩
  rw [← hn] at b0 b1 g0 HEA HMK hM hml ⊢
  clear hn
  have lw := g0.size
  obtain ⟨W0, hW0⟩ : ∃ W0, W0 = (w.alloc (.cells #[.int .i64 cbks, .int .i64 cbds, .slice caa cacts.length cac, .slice cda cduties.length cdc, .int .i64 cen] 25)).alloc (.cells #[.slice ma n mc] 26) := ⟨_, rfl⟩
  rw [← hW0] at g0 b0 b1 lw
  have HW0 := Lib.hid hW0
  clear hW0
  obtain ⟨B0, hB0⟩ : ∃ B0, B0 = w.heap.size := ⟨_, rfl⟩
  rw [← hB0] at b0 b1
  have HB0 := Lib.hid hB0
  clear hB0
  go_enter Tryz.func13, Tryz.ntmps13
  go_upto_region 1 with fail
  change Code.wp _ _ _ _ ((w.alloc (.cells #[.int .i64 cbks, .int .i64 cbds, .slice caa cacts.length cac, .slice cda cduties.length cdc, .int .i64 cen] 25)).alloc (.cells #[.slice ma n mc] 26))
  rw [← HW0.out, ← HB0.out]
  refine wp_region_Y (S := fun W' => G W0 W') 14 15 rfl (by kernel_rfl) ((G.rf W0).d) (fun hS => ?_)
  have gg : G W0 W0.drew := (G.rf W0).d
  generalize W0.drew = WD at *
  cases M
  · have hli : ¬ (n : Int) ≤ 20 := by have := of_decide_eq_false hM.symm; omega
    clear hM
    refine wpAnyY_take (i := 0) (v := ?_) rfl (by kernel_rfl) (by kernel_rfl) (by kernel_rfl) (by kernel_rfl) (fun _ _ _ h => h) (Or.inl ⟨by kernel_rfl, ?_⟩) hS ?_
    rotate_left
    · intro w' hSw; have c0 := (b0.keep hSw).cell 0; have c1 := (b0.keep hSw).cell 1; have c2 := (b0.keep hSw).cell 2; have c3 := (b0.keep hSw).cell 3; have c4 := (b0.keep hSw).cell 4; have e0 := (b1.keep hSw).cell 0; have l0 := (b0.keep hSw).lt; have l1 := (b1.keep hSw).lt; go_simp; with_reducible rfl
    try simp only [Act.put, zzA, zzB, zzC, zzD, zzE, zzF]
    refine wpAnyY_take (i := 1) (v := ?_) rfl (by kernel_rfl) (by kernel_rfl) (by kernel_rfl) (by kernel_rfl) (fun _ _ _ h => h) (Or.inl ⟨by kernel_rfl, ?_⟩) hS ?_
    rotate_left
    · intro w' hSw; have c0 := (b0.keep hSw).cell 0; have c1 := (b0.keep hSw).cell 1; have c2 := (b0.keep hSw).cell 2; have c3 := (b0.keep hSw).cell 3; have c4 := (b0.keep hSw).cell 4; have e0 := (b1.keep hSw).cell 0; have l0 := (b0.keep hSw).lt; have l1 := (b1.keep hSw).lt; go_simp; with_reducible rfl
    try simp only [Act.put, zzA, zzB, zzC, zzD, zzE, zzF]
    refine wpAnyY_take (i := 2) (v := ?_) rfl (by kernel_rfl) (by kernel_rfl) (by kernel_rfl) (by kernel_rfl) (fun _ _ _ h => h) (Or.inl ⟨by kernel_rfl, ?_⟩) hS ?_
    rotate_left
    · intro w' hSw; go_simp; with_reducible rfl
    try simp only [Act.put, zzA, zzB, zzC, zzD, zzE, zzF]
    refine wpAnyY_take (i := 3) (v := .bool false) rfl (by kernel_rfl) (by kernel_rfl) (by kernel_rfl) (by kernel_rfl) (fun _ _ _ h => h) (Or.inl ⟨by kernel_rfl, ?_⟩) hS ?_
    · intro w' hSw; go_simp <;> first | with_reducible rfl | rfl
    try simp only [Act.put, zzA, zzB, zzC, zzD, zzE, zzF]
    refine wpAnyY_take (i := 4) (v := ?_) rfl (by kernel_rfl) (by kernel_rfl) (by kernel_rfl) (by kernel_rfl) (fun _ _ _ h => h) (Or.inl ⟨by kernel_rfl, ?_⟩) hS ?_
    rotate_left
    · intro w' hSw; go_simp; with_reducible rfl
    try simp only [Act.put, zzA, zzB, zzC, zzD, zzE, zzF]
    refine wpAnyY_take (i := 5) (v := undef) rfl (by kernel_rfl) (by kernel_rfl) (by kernel_rfl) (by kernel_rfl) (fun _ _ _ h => h) (Or.inr ⟨by kernel_rfl, rfl⟩) hS ?_
    try simp only [Act.put, zzA, zzB, zzC, zzD, zzE, zzF]
    refine wpAnyY_take (i := 6) (v := undef) rfl (by kernel_rfl) (by kernel_rfl) (by kernel_rfl) (by kernel_rfl) (fun _ _ _ h => h) (Or.inr ⟨by kernel_rfl, rfl⟩) hS ?_
    try simp only [Act.put, zzA, zzB, zzC, zzD, zzE, zzF]
    refine wpAnyY_take (i := 7) (v := ?_) rfl (by kernel_rfl) (by kernel_rfl) (by kernel_rfl) (by kernel_rfl) (fun _ _ _ h => h) (Or.inl ⟨by kernel_rfl, ?_⟩) hS ?_
    rotate_left
    · intro w' hSw; go_simp; with_reducible rfl
    try simp only [Act.put, zzA, zzB, zzC, zzD, zzE, zzF]
    refine wpAnyY_twoSW (i := 8) (j := 12) (by kernel_rfl) rfl rfl (by kernel_rfl) (by kernel_rfl) (fun K8 hK8 => ?_) (fun K12 hK12 => ?_)
    · go_simp
      refine (HQU2.out _ (g0.t gg)).mono ?_
      rintro e w8 ⟨hGc, ⟨hne, rfl⟩ | ⟨hq0, hd, k, J, m, P, pa, pc, qa, qc, hk, rfl, hF⟩⟩
      · have HZ := Lib.hid (fun (W : World) (hW : G w W) => HP1.out hne W hW)
        have hneb : ¬ QE = 0 := hne
        clear hne
        refine hK8.out _ _ (gg.t hGc) (fun hS => ?_)
        replace gg := gg.t hGc
        clear hK8 hGc
        try simp only [Act.put, zzA, zzB, zzC, zzD, zzE, zzF]
        refine wpAnyY_take (i := 9) (v := ?_) rfl (by kernel_rfl) (by kernel_rfl) (by kernel_rfl) (by kernel_rfl) (fun _ _ _ h => h) (Or.inl ⟨by kernel_rfl, ?_⟩) hS ?_
        rotate_left
        · intro w' hSw; go_simp; with_reducible rfl
        try simp only [Act.put, zzA, zzB, zzC, zzD, zzE, zzF]
        refine wpAnyY_take (i := 10) (v := ?_) rfl (by kernel_rfl) (by kernel_rfl) (by kernel_rfl) (by kernel_rfl) (fun _ _ _ h => h) (Or.inl ⟨by kernel_rfl, ?_⟩) hS ?_
        rotate_left
        · intro w' hSw; go_simp; with_reducible rfl
        try simp only [Act.put, zzA, zzB, zzC, zzD, zzE, zzF]
        refine wpAnyY_take (i := 11) (v := ?_) rfl (by kernel_rfl) (by kernel_rfl) (by kernel_rfl) (by kernel_rfl) (fun _ _ _ h => h) (Or.inl ⟨by kernel_rfl, ?_⟩) hS ?_
        rotate_left
        · intro w' hSw; go_simp; with_reducible rfl
        try simp only [Act.put, zzA, zzB, zzC, zzD, zzE, zzF]
        refine wpAnyY_oneSW (i := 12) (by kernel_rfl) rfl (by kernel_rfl) (fun K12 hK12 => ?_)
        go_simp
        refine hK12.out _ _ (gg.a _) (fun hS => ?_)
        clear hK12
        try simp only [Act.put, zzA, zzB, zzC, zzD, zzE, zzF]
        have hCw : W0.heap.size ≤ w8.heap.size := gg.size
        have bC := Blk.new w8 71 #[.pointer none]
        replace gg := gg.a (.cells #[.pointer none] 71)
        obtain ⟨C, hC⟩ : ∃ C, C = w8.heap.size := ⟨_, rfl⟩
        rw [← hC] at bC hCw ⊢
        clear hC
        generalize w8.alloc (.cells #[.pointer none] 71) = WC at *
        have cC := bC.cell 0
        have zC := bC.frozen 0
        have lC := bC.lt
        refine wpAnyY_oneSW (i := 13) (by kernel_rfl) rfl (by kernel_rfl) (fun K13 hK13 => ?_)
        go_simp
        refine hK13.out _ _ (gg.s (p := ⟨C, 0, none⟩) hCw _) (fun hS => ?_)
        clear hK13
        try simp only [Act.put, zzA, zzB, zzC, zzD, zzE, zzF]
        refine wpAnyY_oneW (i := 14) (by kernel_rfl) rfl (by kernel_rfl) (by kernel_rfl) (fun K14 hK14 => ?_)
        go_simp
        refine hK14.out _ _ ?_
        clear hK14
        try simp only [Act.put, zzA, zzB, zzC, zzD, zzE, zzF]
        refine wpAnyY_done (by kernel_rfl) ?_ _
        clear hS cC zC lC
        have HZ2 := Lib.hid (HZ.out _ (g0.t (gg.s (p := ⟨C, 0, none⟩) hCw (.pointer none))))
        clear HZ HP1 HP2 HBD HQU2 HEA HMK bC gg hCw
        go_wp2_with fail
        first | exact HZ2.out | (go_ret; exact HZ2.out)
      · simp at hd
    · go_simp
      refine hK12.out _ _ (gg.a _) (fun hS => ?_)
      clear hK12
      try simp only [Act.put, zzA, zzB, zzC, zzD, zzE, zzF]
      have hCw : W0.heap.size ≤ WD.heap.size := gg.size
      have bC := Blk.new WD 71 #[.pointer none]
      replace gg := gg.a (.cells #[.pointer none] 71)
      obtain ⟨C, hC⟩ : ∃ C, C = WD.heap.size := ⟨_, rfl⟩
      rw [← hC] at bC hCw ⊢
      clear hC
      generalize WD.alloc (.cells #[.pointer none] 71) = WC at *
      refine wpAnyY_oneSW (i := 8) (by kernel_rfl) rfl (by kernel_rfl) (fun K8 hK8 => ?_)
      go_simp
      refine (HQU2.out _ (g0.t gg)).mono ?_
      rintro e w8 ⟨hGc, ⟨hne, rfl⟩ | ⟨hq0, hd, k, J, m, P, pa, pc, qa, qc, hk, rfl, hF⟩⟩
      · have HZ := Lib.hid (fun (W : World) (hW : G w W) => HP1.out hne W hW)
        have hneb : ¬ QE = 0 := hne
        clear hne
        refine hK8.out _ _ (gg.t hGc) (fun hS => ?_)
        replace gg := gg.t hGc
        replace bC := bC.keep hGc
        clear hK8 hGc
        try simp only [Act.put, zzA, zzB, zzC, zzD, zzE, zzF]
        refine wpAnyY_take (i := 9) (v := ?_) rfl (by kernel_rfl) (by kernel_rfl) (by kernel_rfl) (by kernel_rfl) (fun _ _ _ h => h) (Or.inl ⟨by kernel_rfl, ?_⟩) hS ?_
        rotate_left
        · intro w' hSw; go_simp; with_reducible rfl
        try simp only [Act.put, zzA, zzB, zzC, zzD, zzE, zzF]
        refine wpAnyY_take (i := 10) (v := ?_) rfl (by kernel_rfl) (by kernel_rfl) (by kernel_rfl) (by kernel_rfl) (fun _ _ _ h => h) (Or.inl ⟨by kernel_rfl, ?_⟩) hS ?_
        rotate_left
        · intro w' hSw; go_simp; with_reducible rfl
        try simp only [Act.put, zzA, zzB, zzC, zzD, zzE, zzF]
        refine wpAnyY_take (i := 11) (v := ?_) rfl (by kernel_rfl) (by kernel_rfl) (by kernel_rfl) (by kernel_rfl) (fun _ _ _ h => h) (Or.inl ⟨by kernel_rfl, ?_⟩) hS ?_
        rotate_left
        · intro w' hSw; go_simp; with_reducible rfl
        try simp only [Act.put, zzA, zzB, zzC, zzD, zzE, zzF]
        have cC := bC.cell 0
        have zC := bC.frozen 0
        have lC := bC.lt
        refine wpAnyY_oneSW (i := 13) (by kernel_rfl) rfl (by kernel_rfl) (fun K13 hK13 => ?_)
        go_simp
        refine hK13.out _ _ (gg.s (p := ⟨C, 0, none⟩) hCw _) (fun hS => ?_)
        clear hK13
        try simp only [Act.put, zzA, zzB, zzC, zzD, zzE, zzF]
        refine wpAnyY_oneW (i := 14) (by kernel_rfl) rfl (by kernel_rfl) (by kernel_rfl) (fun K14 hK14 => ?_)
        go_simp
        refine hK14.out _ _ ?_
        clear hK14
        try simp only [Act.put, zzA, zzB, zzC, zzD, zzE, zzF]
        refine wpAnyY_done (by kernel_rfl) ?_ _
        clear hS cC zC lC
        have HZ2 := Lib.hid (HZ.out _ (g0.t (gg.s (p := ⟨C, 0, none⟩) hCw (.pointer none))))
        clear HZ HP1 HP2 HBD HQU2 HEA HMK bC gg hCw
        go_wp2_with fail
        first | exact HZ2.out | (go_ret; exact HZ2.out)
      · simp at hd
  · have hli : (n : Int) ≤ 20 := by have := of_decide_eq_true hM.symm; omega
    clear hM
    refine wpAnyY_take (i := 0) (v := ?_) rfl (by kernel_rfl) (by kernel_rfl) (by kernel_rfl) (by kernel_rfl) (fun _ _ _ h => h) (Or.inl ⟨by kernel_rfl, ?_⟩) hS ?_
    rotate_left
    · intro w' hSw; have c0 := (b0.keep hSw).cell 0; have c1 := (b0.keep hSw).cell 1; have c2 := (b0.keep hSw).cell 2; have c3 := (b0.keep hSw).cell 3; have c4 := (b0.keep hSw).cell 4; have e0 := (b1.keep hSw).cell 0; have l0 := (b0.keep hSw).lt; have l1 := (b1.keep hSw).lt; go_simp; with_reducible rfl
    try simp only [Act.put, zzA, zzB, zzC, zzD, zzE, zzF]
    refine wpAnyY_take (i := 1) (v := ?_) rfl (by kernel_rfl) (by kernel_rfl) (by kernel_rfl) (by kernel_rfl) (fun _ _ _ h => h) (Or.inl ⟨by kernel_rfl, ?_⟩) hS ?_
    rotate_left
    · intro w' hSw; have c0 := (b0.keep hSw).cell 0; have c1 := (b0.keep hSw).cell 1; have c2 := (b0.keep hSw).cell 2; have c3 := (b0.keep hSw).cell 3; have c4 := (b0.keep hSw).cell 4; have e0 := (b1.keep hSw).cell 0; have l0 := (b0.keep hSw).lt; have l1 := (b1.keep hSw).lt; go_simp; with_reducible rfl
    try simp only [Act.put, zzA, zzB, zzC, zzD, zzE, zzF]
    refine wpAnyY_take (i := 2) (v := ?_) rfl (by kernel_rfl) (by kernel_rfl) (by kernel_rfl) (by kernel_rfl) (fun _ _ _ h => h) (Or.inl ⟨by kernel_rfl, ?_⟩) hS ?_
    rotate_left
    · intro w' hSw; go_simp; with_reducible rfl
    try simp only [Act.put, zzA, zzB, zzC, zzD, zzE, zzF]
    refine wpAnyY_take (i := 3) (v := .bool true) rfl (by kernel_rfl) (by kernel_rfl) (by kernel_rfl) (by kernel_rfl) (fun _ _ _ h => h) (Or.inl ⟨by kernel_rfl, ?_⟩) hS ?_
    · intro w' hSw; go_simp <;> first | with_reducible rfl | rfl
    try simp only [Act.put, zzA, zzB, zzC, zzD, zzE, zzF]
    refine wpAnyY_take (i := 4) (v := ?_) rfl (by kernel_rfl) (by kernel_rfl) (by kernel_rfl) (by kernel_rfl) (fun _ _ _ h => h) (Or.inl ⟨by kernel_rfl, ?_⟩) hS ?_
    rotate_left
    · intro w' hSw; go_simp; with_reducible rfl
    try simp only [Act.put, zzA, zzB, zzC, zzD, zzE, zzF]
    refine wpAnyY_take (i := 5) (v := ?_) rfl (by kernel_rfl) (by kernel_rfl) (by kernel_rfl) (by kernel_rfl) (fun _ _ _ h => h) (Or.inl ⟨by kernel_rfl, ?_⟩) hS ?_
    rotate_left
    · intro w' hSw; have c0 := (b0.keep hSw).cell 0; have c1 := (b0.keep hSw).cell 1; have c2 := (b0.keep hSw).cell 2; have c3 := (b0.keep hSw).cell 3; have c4 := (b0.keep hSw).cell 4; have e0 := (b1.keep hSw).cell 0; have l0 := (b0.keep hSw).lt; have l1 := (b1.keep hSw).lt; go_simp; with_reducible rfl
    try simp only [Act.put, zzA, zzB, zzC, zzD, zzE, zzF]
    refine wpAnyY_twoSW (i := 6) (j := 12) (by kernel_rfl) rfl rfl (by kernel_rfl) (by kernel_rfl) (fun K6 hK6 => ?_) (fun K12 hK12 => ?_)
    · go_simp
      refine (HEA.out _ (g0.t gg)).mono ?_
      rintro e w6 ⟨rfl, hGc⟩
      refine hK6.out _ _ (gg.t hGc) (fun hS => ?_)
      replace gg := gg.t hGc
      clear hK6 hGc
      try simp only [Act.put, zzA, zzB, zzC, zzD, zzE, zzF]
      refine wpAnyY_take (i := 7) (v := ?_) rfl (by kernel_rfl) (by kernel_rfl) (by kernel_rfl) (by kernel_rfl) (fun _ _ _ h => h) (Or.inl ⟨by kernel_rfl, ?_⟩) hS ?_
      rotate_left
      · intro w' hSw; go_simp; with_reducible rfl
      try simp only [Act.put, zzA, zzB, zzC, zzD, zzE, zzF]
      refine wpAnyY_twoSW (i := 8) (j := 12) (by kernel_rfl) rfl rfl (by kernel_rfl) (by kernel_rfl) (fun K8 hK8 => ?_) (fun K12 hK12 => ?_)
      · go_simp
        refine (HQU2.out _ (g0.t gg)).mono ?_
        rintro e w8 ⟨hGc, ⟨hne, rfl⟩ | ⟨hq0, hd, k, J, m, P, pa, pc, qa, qc, hk, rfl, hF⟩⟩
        · have HZ := Lib.hid (fun (W : World) (hW : G w W) => HP1.out hne W hW)
          have hneb : ¬ QE = 0 := hne
          clear hne
          refine hK8.out _ _ (gg.t hGc) (fun hS => ?_)
          replace gg := gg.t hGc
          clear hK8 hGc
          try simp only [Act.put, zzA, zzB, zzC, zzD, zzE, zzF]
          refine wpAnyY_take (i := 9) (v := ?_) rfl (by kernel_rfl) (by kernel_rfl) (by kernel_rfl) (by kernel_rfl) (fun _ _ _ h => h) (Or.inl ⟨by kernel_rfl, ?_⟩) hS ?_
          rotate_left
          · intro w' hSw; go_simp; with_reducible rfl
          try simp only [Act.put, zzA, zzB, zzC, zzD, zzE, zzF]
          refine wpAnyY_take (i := 10) (v := ?_) rfl (by kernel_rfl) (by kernel_rfl) (by kernel_rfl) (by kernel_rfl) (fun _ _ _ h => h) (Or.inl ⟨by kernel_rfl, ?_⟩) hS ?_
          rotate_left
          · intro w' hSw; go_simp; with_reducible rfl
          try simp only [Act.put, zzA, zzB, zzC, zzD, zzE, zzF]
          refine wpAnyY_take (i := 11) (v := ?_) rfl (by kernel_rfl) (by kernel_rfl) (by kernel_rfl) (by kernel_rfl) (fun _ _ _ h => h) (Or.inl ⟨by kernel_rfl, ?_⟩) hS ?_
          rotate_left
          · intro w' hSw; go_simp; with_reducible rfl
          try simp only [Act.put, zzA, zzB, zzC, zzD, zzE, zzF]
          refine wpAnyY_oneSW (i := 12) (by kernel_rfl) rfl (by kernel_rfl) (fun K12 hK12 => ?_)
          go_simp
          refine hK12.out _ _ (gg.a _) (fun hS => ?_)
          clear hK12
          try simp only [Act.put, zzA, zzB, zzC, zzD, zzE, zzF]
          have hCw : W0.heap.size ≤ w8.heap.size := gg.size
          have bC := Blk.new w8 71 #[.pointer none]
          replace gg := gg.a (.cells #[.pointer none] 71)
          obtain ⟨C, hC⟩ : ∃ C, C = w8.heap.size := ⟨_, rfl⟩
          rw [← hC] at bC hCw ⊢
          clear hC
          generalize w8.alloc (.cells #[.pointer none] 71) = WC at *
          have cC := bC.cell 0
          have zC := bC.frozen 0
          have lC := bC.lt
          refine wpAnyY_oneSW (i := 13) (by kernel_rfl) rfl (by kernel_rfl) (fun K13 hK13 => ?_)
          go_simp
          refine hK13.out _ _ (gg.s (p := ⟨C, 0, none⟩) hCw _) (fun hS => ?_)
          clear hK13
          try simp only [Act.put, zzA, zzB, zzC, zzD, zzE, zzF]
          refine wpAnyY_oneW (i := 14) (by kernel_rfl) rfl (by kernel_rfl) (by kernel_rfl) (fun K14 hK14 => ?_)
          go_simp
          refine hK14.out _ _ ?_
          clear hK14
          try simp only [Act.put, zzA, zzB, zzC, zzD, zzE, zzF]
          refine wpAnyY_done (by kernel_rfl) ?_ _
          clear hS cC zC lC
          have HZ2 := Lib.hid (HZ.out _ (g0.t (gg.s (p := ⟨C, 0, none⟩) hCw (.pointer none))))
          clear HZ HP1 HP2 HBD HQU2 HEA HMK bC gg hCw
          go_wp2_with fail
          first | exact HZ2.out | (go_ret; exact HZ2.out)
        · rw [← HCC.out] at hk hF
          have HF := Lib.hid hF
          have HZ := Lib.hid (HP2.out hq0 k hk)
          obtain ⟨hb1, hb2⟩ := HBD.out k hk
          have HB1 := Lib.hid hb1
          clear hk hF hd hb1 hq0
          refine hK8.out _ _ (gg.t hGc) (fun hS => ?_)
          replace gg := gg.t hGc
          clear hK8 hGc
          try simp only [Act.put, zzA, zzB, zzC, zzD, zzE, zzF]
          refine wpAnyY_take (i := 9) (v := ?_) rfl (by kernel_rfl) (by kernel_rfl) (by kernel_rfl) (by kernel_rfl) (fun _ _ _ h => h) (Or.inl ⟨by kernel_rfl, ?_⟩) hS ?_
          rotate_left
          · intro w' hSw; go_simp; with_reducible rfl
          try simp only [Act.put, zzA, zzB, zzC, zzD, zzE, zzF]
          refine wpAnyY_take (i := 10) (v := ?_) rfl (by kernel_rfl) (by kernel_rfl) (by kernel_rfl) (by kernel_rfl) (fun _ _ _ h => h) (Or.inl ⟨by kernel_rfl, ?_⟩) hS ?_
          rotate_left
          · intro w' hSw; go_simp; with_reducible rfl
          try simp only [Act.put, zzA, zzB, zzC, zzD, zzE, zzF]
          refine wpAnyY_take (i := 11) (v := ?_) rfl (by kernel_rfl) (by kernel_rfl) (by kernel_rfl) (by kernel_rfl) (fun _ _ _ h => h) (Or.inl ⟨by kernel_rfl, ?_⟩) hS ?_
          rotate_left
          · intro w' hSw; go_simp; with_reducible rfl
          try simp only [Act.put, zzA, zzB, zzC, zzD, zzE, zzF]
          refine wpAnyY_oneSW (i := 12) (by kernel_rfl) rfl (by kernel_rfl) (fun K12 hK12 => ?_)
          go_simp
          refine hK12.out _ _ (gg.a _) (fun hS => ?_)
          clear hK12
          try simp only [Act.put, zzA, zzB, zzC, zzD, zzE, zzF]
          have hCw : W0.heap.size ≤ w8.heap.size := gg.size
          have bC := Blk.new w8 71 #[.pointer none]
          replace gg := gg.a (.cells #[.pointer none] 71)
          replace HF := Lib.hid (HF.out.keep ((G.rf w8).a (.cells #[.pointer none] 71)))
          obtain ⟨C, hC⟩ : ∃ C, C = w8.heap.size := ⟨_, rfl⟩
          rw [← hC] at bC hCw ⊢
          clear hC
          generalize w8.alloc (.cells #[.pointer none] 71) = WC at *
          have cC := bC.cell 0
          have zC := bC.frozen 0
          have lC := bC.lt
          refine wpAnyY_oneSW (i := 13) (by kernel_rfl) rfl (by kernel_rfl) (fun K13 hK13 => ?_)
          go_simp
          refine hK13.out _ _ (gg.s (p := ⟨C, 0, none⟩) hCw _) (fun hS => ?_)
          clear hK13
          try simp only [Act.put, zzA, zzB, zzC, zzD, zzE, zzF]
          refine wpAnyY_oneW (i := 14) (by kernel_rfl) rfl (by kernel_rfl) (by kernel_rfl) (fun K14 hK14 => ?_)
          go_simp
          refine hK14.out _ _ ?_
          clear hK14
          try simp only [Act.put, zzA, zzB, zzC, zzD, zzE, zzF]
          refine wpAnyY_done (by kernel_rfl) ?_ _
          clear hS cC zC lC
          have g5 : G W0 (WC.setCell ⟨C, 0, none⟩ (.pointer (some ⟨J, 0, none⟩))) := gg.s (p := ⟨C, 0, none⟩) hCw (.pointer (some ⟨J, 0, none⟩))
          have F5 := Lib.hid (FolAt.set71 (.pointer (some ⟨J, 0, none⟩)) HF.out bC)
          replace bC : Blk (WC.setCell ⟨C, 0, none⟩ (.pointer (some ⟨J, 0, none⟩))) C 71 #[(.pointer (some ⟨J, 0, none⟩))] := bC.set_ 0 (.pointer (some ⟨J, 0, none⟩))
          clear gg HF HP1 HP2 HBD HQU2 HEA
          generalize WC.setCell ⟨C, 0, none⟩ (.pointer (some ⟨J, 0, none⟩)) = W5 at *
          have HN := Lib.hid (numbers_any 41 (enters_of Tryz.func41 (by kernel_rfl) rfl) #[.pointer (some ⟨C, 0, none⟩), .pointer (some ⟨B0 + 1, 0, none⟩)] ND (fun b => mrkP ms k.past (b : Int)) W5 (by omega) (fun W' hW i hi => HMK.out k W' (g0.t (g5.t hW)) J m P pa pc qa qc (F5.out.keep hW) (i : Int) C (B0 + 1) (bC.keep hW) ((b1.keep g5).keep hW)))
          unfold IvPost at HN
          have b5 := b0.keep g5
          have c1 : W5.cell? ⟨B0, 1, none⟩ = some (.int .i64 (ND : Nat)) := by rw [b5.cell 1]; have e := HB1.out; rw [HCC.out] at e; dsimp only at e; rw [← e]; rfl
          have l0 := b5.lt
          have hsz := Nat.le_trans lw g5.size
          have HG := Lib.hid (g0.t g5)
          clear b5 F5 bC b0 b1 g5 HMK
          go_wp2_with (go_at_call 40; refine HN.out.mono ?_; rintro e w9 ⟨v, rfl, ho, hG9⟩; have HO := Lib.hid (own_weaken ho hsz); clear ho)
          first | exact HZ.out _ _ HO.out (HG.out.t hG9) | (go_ret; exact HZ.out _ _ HO.out (HG.out.t hG9))
      · go_simp
        refine hK12.out _ _ (gg.a _) (fun hS => ?_)
        clear hK12
        try simp only [Act.put, zzA, zzB, zzC, zzD, zzE, zzF]
        have hCw : W0.heap.size ≤ w6.heap.size := gg.size
        have bC := Blk.new w6 71 #[.pointer none]
        replace gg := gg.a (.cells #[.pointer none] 71)
        obtain ⟨C, hC⟩ : ∃ C, C = w6.heap.size := ⟨_, rfl⟩
        rw [← hC] at bC hCw ⊢
        clear hC
        generalize w6.alloc (.cells #[.pointer none] 71) = WC at *
        refine wpAnyY_oneSW (i := 8) (by kernel_rfl) rfl (by kernel_rfl) (fun K8 hK8 => ?_)
        go_simp
        refine (HQU2.out _ (g0.t gg)).mono ?_
        rintro e w8 ⟨hGc, ⟨hne, rfl⟩ | ⟨hq0, hd, k, J, m, P, pa, pc, qa, qc, hk, rfl, hF⟩⟩
        · have HZ := Lib.hid (fun (W : World) (hW : G w W) => HP1.out hne W hW)
          have hneb : ¬ QE = 0 := hne
          clear hne
          refine hK8.out _ _ (gg.t hGc) (fun hS => ?_)
          replace gg := gg.t hGc
          replace bC := bC.keep hGc
          clear hK8 hGc
          try simp only [Act.put, zzA, zzB, zzC, zzD, zzE, zzF]
          refine wpAnyY_take (i := 9) (v := ?_) rfl (by kernel_rfl) (by kernel_rfl) (by kernel_rfl) (by kernel_rfl) (fun _ _ _ h => h) (Or.inl ⟨by kernel_rfl, ?_⟩) hS ?_
          rotate_left
          · intro w' hSw; go_simp; with_reducible rfl
          try simp only [Act.put, zzA, zzB, zzC, zzD, zzE, zzF]
          refine wpAnyY_take (i := 10) (v := ?_) rfl (by kernel_rfl) (by kernel_rfl) (by kernel_rfl) (by kernel_rfl) (fun _ _ _ h => h) (Or.inl ⟨by kernel_rfl, ?_⟩) hS ?_
          rotate_left
          · intro w' hSw; go_simp; with_reducible rfl
          try simp only [Act.put, zzA, zzB, zzC, zzD, zzE, zzF]
          refine wpAnyY_take (i := 11) (v := ?_) rfl (by kernel_rfl) (by kernel_rfl) (by kernel_rfl) (by kernel_rfl) (fun _ _ _ h => h) (Or.inl ⟨by kernel_rfl, ?_⟩) hS ?_
          rotate_left
          · intro w' hSw; go_simp; with_reducible rfl
          try simp only [Act.put, zzA, zzB, zzC, zzD, zzE, zzF]
          have cC := bC.cell 0
          have zC := bC.frozen 0
          have lC := bC.lt
          refine wpAnyY_oneSW (i := 13) (by kernel_rfl) rfl (by kernel_rfl) (fun K13 hK13 => ?_)
          go_simp
          refine hK13.out _ _ (gg.s (p := ⟨C, 0, none⟩) hCw _) (fun hS => ?_)
          clear hK13
          try simp only [Act.put, zzA, zzB, zzC, zzD, zzE, zzF]
          refine wpAnyY_oneW (i := 14) (by kernel_rfl) rfl (by kernel_rfl) (by kernel_rfl) (fun K14 hK14 => ?_)
          go_simp
          refine hK14.out _ _ ?_
          clear hK14
          try simp only [Act.put, zzA, zzB, zzC, zzD, zzE, zzF]
          refine wpAnyY_done (by kernel_rfl) ?_ _
          clear hS cC zC lC
          have HZ2 := Lib.hid (HZ.out _ (g0.t (gg.s (p := ⟨C, 0, none⟩) hCw (.pointer none))))
          clear HZ HP1 HP2 HBD HQU2 HEA HMK bC gg hCw
          go_wp2_with fail
          first | exact HZ2.out | (go_ret; exact HZ2.out)
        · rw [← HCC.out] at hk hF
          have HF := Lib.hid hF
          have HZ := Lib.hid (HP2.out hq0 k hk)
          obtain ⟨hb1, hb2⟩ := HBD.out k hk
          have HB1 := Lib.hid hb1
          clear hk hF hd hb1 hq0
          refine hK8.out _ _ (gg.t hGc) (fun hS => ?_)
          replace gg := gg.t hGc
          replace bC := bC.keep hGc
          clear hK8 hGc
          try simp only [Act.put, zzA, zzB, zzC, zzD, zzE, zzF]
          refine wpAnyY_take (i := 9) (v := ?_) rfl (by kernel_rfl) (by kernel_rfl) (by kernel_rfl) (by kernel_rfl) (fun _ _ _ h => h) (Or.inl ⟨by kernel_rfl, ?_⟩) hS ?_
          rotate_left
          · intro w' hSw; go_simp; with_reducible rfl
          try simp only [Act.put, zzA, zzB, zzC, zzD, zzE, zzF]
          refine wpAnyY_take (i := 10) (v := ?_) rfl (by kernel_rfl) (by kernel_rfl) (by kernel_rfl) (by kernel_rfl) (fun _ _ _ h => h) (Or.inl ⟨by kernel_rfl, ?_⟩) hS ?_
          rotate_left
          · intro w' hSw; go_simp; with_reducible rfl
          try simp only [Act.put, zzA, zzB, zzC, zzD, zzE, zzF]
          refine wpAnyY_take (i := 11) (v := ?_) rfl (by kernel_rfl) (by kernel_rfl) (by kernel_rfl) (by kernel_rfl) (fun _ _ _ h => h) (Or.inl ⟨by kernel_rfl, ?_⟩) hS ?_
          rotate_left
          · intro w' hSw; go_simp; with_reducible rfl
          try simp only [Act.put, zzA, zzB, zzC, zzD, zzE, zzF]
          have cC := bC.cell 0
          have zC := bC.frozen 0
          have lC := bC.lt
          refine wpAnyY_oneSW (i := 13) (by kernel_rfl) rfl (by kernel_rfl) (fun K13 hK13 => ?_)
          go_simp
          refine hK13.out _ _ (gg.s (p := ⟨C, 0, none⟩) hCw _) (fun hS => ?_)
          clear hK13
          try simp only [Act.put, zzA, zzB, zzC, zzD, zzE, zzF]
          refine wpAnyY_oneW (i := 14) (by kernel_rfl) rfl (by kernel_rfl) (by kernel_rfl) (fun K14 hK14 => ?_)
          go_simp
          refine hK14.out _ _ ?_
          clear hK14
          try simp only [Act.put, zzA, zzB, zzC, zzD, zzE, zzF]
          refine wpAnyY_done (by kernel_rfl) ?_ _
          clear hS cC zC lC
          have g5 : G W0 (w8.setCell ⟨C, 0, none⟩ (.pointer (some ⟨J, 0, none⟩))) := gg.s (p := ⟨C, 0, none⟩) hCw (.pointer (some ⟨J, 0, none⟩))
          have F5 := Lib.hid (FolAt.set71 (.pointer (some ⟨J, 0, none⟩)) HF.out bC)
          replace bC : Blk (w8.setCell ⟨C, 0, none⟩ (.pointer (some ⟨J, 0, none⟩))) C 71 #[(.pointer (some ⟨J, 0, none⟩))] := bC.set_ 0 (.pointer (some ⟨J, 0, none⟩))
          clear gg HF HP1 HP2 HBD HQU2 HEA
          generalize w8.setCell ⟨C, 0, none⟩ (.pointer (some ⟨J, 0, none⟩)) = W5 at *
          have HN := Lib.hid (numbers_any 41 (enters_of Tryz.func41 (by kernel_rfl) rfl) #[.pointer (some ⟨C, 0, none⟩), .pointer (some ⟨B0 + 1, 0, none⟩)] ND (fun b => mrkP ms k.past (b : Int)) W5 (by omega) (fun W' hW i hi => HMK.out k W' (g0.t (g5.t hW)) J m P pa pc qa qc (F5.out.keep hW) (i : Int) C (B0 + 1) (bC.keep hW) ((b1.keep g5).keep hW)))
          unfold IvPost at HN
          have b5 := b0.keep g5
          have c1 : W5.cell? ⟨B0, 1, none⟩ = some (.int .i64 (ND : Nat)) := by rw [b5.cell 1]; have e := HB1.out; rw [HCC.out] at e; dsimp only at e; rw [← e]; rfl
          have l0 := b5.lt
          have hsz := Nat.le_trans lw g5.size
          have HG := Lib.hid (g0.t g5)
          clear b5 F5 bC b0 b1 g5 HMK
          go_wp2_with (go_at_call 40; refine HN.out.mono ?_; rintro e w9 ⟨v, rfl, ho, hG9⟩; have HO := Lib.hid (own_weaken ho hsz); clear ho)
          first | exact HZ.out _ _ HO.out (HG.out.t hG9) | (go_ret; exact HZ.out _ _ HO.out (HG.out.t hG9))
    · go_simp
      refine hK12.out _ _ (gg.a _) (fun hS => ?_)
      clear hK12
      try simp only [Act.put, zzA, zzB, zzC, zzD, zzE, zzF]
      have hCw : W0.heap.size ≤ WD.heap.size := gg.size
      have bC := Blk.new WD 71 #[.pointer none]
      replace gg := gg.a (.cells #[.pointer none] 71)
      obtain ⟨C, hC⟩ : ∃ C, C = WD.heap.size := ⟨_, rfl⟩
      rw [← hC] at bC hCw ⊢
      clear hC
      generalize WD.alloc (.cells #[.pointer none] 71) = WC at *
      refine wpAnyY_oneSW (i := 6) (by kernel_rfl) rfl (by kernel_rfl) (fun K6 hK6 => ?_)
      go_simp
      refine (HEA.out _ (g0.t gg)).mono ?_
      rintro e w6 ⟨rfl, hGc⟩
      refine hK6.out _ _ (gg.t hGc) (fun hS => ?_)
      replace gg := gg.t hGc
      replace bC := bC.keep hGc
      clear hK6 hGc
      try simp only [Act.put, zzA, zzB, zzC, zzD, zzE, zzF]
      refine wpAnyY_take (i := 7) (v := ?_) rfl (by kernel_rfl) (by kernel_rfl) (by kernel_rfl) (by kernel_rfl) (fun _ _ _ h => h) (Or.inl ⟨by kernel_rfl, ?_⟩) hS ?_
      rotate_left
      · intro w' hSw; go_simp; with_reducible rfl
      try simp only [Act.put, zzA, zzB, zzC, zzD, zzE, zzF]
      refine wpAnyY_oneSW (i := 8) (by kernel_rfl) rfl (by kernel_rfl) (fun K8 hK8 => ?_)
      go_simp
      refine (HQU2.out _ (g0.t gg)).mono ?_
      rintro e w8 ⟨hGc, ⟨hne, rfl⟩ | ⟨hq0, hd, k, J, m, P, pa, pc, qa, qc, hk, rfl, hF⟩⟩
      · have HZ := Lib.hid (fun (W : World) (hW : G w W) => HP1.out hne W hW)
        have hneb : ¬ QE = 0 := hne
        clear hne
        refine hK8.out _ _ (gg.t hGc) (fun hS => ?_)
        replace gg := gg.t hGc
        replace bC := bC.keep hGc
        clear hK8 hGc
        try simp only [Act.put, zzA, zzB, zzC, zzD, zzE, zzF]
        refine wpAnyY_take (i := 9) (v := ?_) rfl (by kernel_rfl) (by kernel_rfl) (by kernel_rfl) (by kernel_rfl) (fun _ _ _ h => h) (Or.inl ⟨by kernel_rfl, ?_⟩) hS ?_
        rotate_left
        · intro w' hSw; go_simp; with_reducible rfl
        try simp only [Act.put, zzA, zzB, zzC, zzD, zzE, zzF]
        refine wpAnyY_take (i := 10) (v := ?_) rfl (by kernel_rfl) (by kernel_rfl) (by kernel_rfl) (by kernel_rfl) (fun _ _ _ h => h) (Or.inl ⟨by kernel_rfl, ?_⟩) hS ?_
        rotate_left
        · intro w' hSw; go_simp; with_reducible rfl
        try simp only [Act.put, zzA, zzB, zzC, zzD, zzE, zzF]
        refine wpAnyY_take (i := 11) (v := ?_) rfl (by kernel_rfl) (by kernel_rfl) (by kernel_rfl) (by kernel_rfl) (fun _ _ _ h => h) (Or.inl ⟨by kernel_rfl, ?_⟩) hS ?_
        rotate_left
        · intro w' hSw; go_simp; with_reducible rfl
        try simp only [Act.put, zzA, zzB, zzC, zzD, zzE, zzF]
        have cC := bC.cell 0
        have zC := bC.frozen 0
        have lC := bC.lt
        refine wpAnyY_oneSW (i := 13) (by kernel_rfl) rfl (by kernel_rfl) (fun K13 hK13 => ?_)
        go_simp
        refine hK13.out _ _ (gg.s (p := ⟨C, 0, none⟩) hCw _) (fun hS => ?_)
        clear hK13
        try simp only [Act.put, zzA, zzB, zzC, zzD, zzE, zzF]
        refine wpAnyY_oneW (i := 14) (by kernel_rfl) rfl (by kernel_rfl) (by kernel_rfl) (fun K14 hK14 => ?_)
        go_simp
        refine hK14.out _ _ ?_
        clear hK14
        try simp only [Act.put, zzA, zzB, zzC, zzD, zzE, zzF]
        refine wpAnyY_done (by kernel_rfl) ?_ _
        clear hS cC zC lC
        have HZ2 := Lib.hid (HZ.out _ (g0.t (gg.s (p := ⟨C, 0, none⟩) hCw (.pointer none))))
        clear HZ HP1 HP2 HBD HQU2 HEA HMK bC gg hCw
        go_wp2_with fail
        first | exact HZ2.out | (go_ret; exact HZ2.out)
      · rw [← HCC.out] at hk hF
        have HF := Lib.hid hF
        have HZ := Lib.hid (HP2.out hq0 k hk)
        obtain ⟨hb1, hb2⟩ := HBD.out k hk
        have HB1 := Lib.hid hb1
        clear hk hF hd hb1 hq0
        refine hK8.out _ _ (gg.t hGc) (fun hS => ?_)
        replace gg := gg.t hGc
        replace bC := bC.keep hGc
        clear hK8 hGc
        try simp only [Act.put, zzA, zzB, zzC, zzD, zzE, zzF]
        refine wpAnyY_take (i := 9) (v := ?_) rfl (by kernel_rfl) (by kernel_rfl) (by kernel_rfl) (by kernel_rfl) (fun _ _ _ h => h) (Or.inl ⟨by kernel_rfl, ?_⟩) hS ?_
        rotate_left
        · intro w' hSw; go_simp; with_reducible rfl
        try simp only [Act.put, zzA, zzB, zzC, zzD, zzE, zzF]
        refine wpAnyY_take (i := 10) (v := ?_) rfl (by kernel_rfl) (by kernel_rfl) (by kernel_rfl) (by kernel_rfl) (fun _ _ _ h => h) (Or.inl ⟨by kernel_rfl, ?_⟩) hS ?_
        rotate_left
        · intro w' hSw; go_simp; with_reducible rfl
        try simp only [Act.put, zzA, zzB, zzC, zzD, zzE, zzF]
        refine wpAnyY_take (i := 11) (v := ?_) rfl (by kernel_rfl) (by kernel_rfl) (by kernel_rfl) (by kernel_rfl) (fun _ _ _ h => h) (Or.inl ⟨by kernel_rfl, ?_⟩) hS ?_
        rotate_left
        · intro w' hSw; go_simp; with_reducible rfl
        try simp only [Act.put, zzA, zzB, zzC, zzD, zzE, zzF]
        have cC := bC.cell 0
        have zC := bC.frozen 0
        have lC := bC.lt
        refine wpAnyY_oneSW (i := 13) (by kernel_rfl) rfl (by kernel_rfl) (fun K13 hK13 => ?_)
        go_simp
        refine hK13.out _ _ (gg.s (p := ⟨C, 0, none⟩) hCw _) (fun hS => ?_)
        clear hK13
        try simp only [Act.put, zzA, zzB, zzC, zzD, zzE, zzF]
        refine wpAnyY_oneW (i := 14) (by kernel_rfl) rfl (by kernel_rfl) (by kernel_rfl) (fun K14 hK14 => ?_)
        go_simp
        refine hK14.out _ _ ?_
        clear hK14
        try simp only [Act.put, zzA, zzB, zzC, zzD, zzE, zzF]
        refine wpAnyY_done (by kernel_rfl) ?_ _
        clear hS cC zC lC
        have g5 : G W0 (w8.setCell ⟨C, 0, none⟩ (.pointer (some ⟨J, 0, none⟩))) := gg.s (p := ⟨C, 0, none⟩) hCw (.pointer (some ⟨J, 0, none⟩))
        have F5 := Lib.hid (FolAt.set71 (.pointer (some ⟨J, 0, none⟩)) HF.out bC)
        replace bC : Blk (w8.setCell ⟨C, 0, none⟩ (.pointer (some ⟨J, 0, none⟩))) C 71 #[(.pointer (some ⟨J, 0, none⟩))] := bC.set_ 0 (.pointer (some ⟨J, 0, none⟩))
        clear gg HF HP1 HP2 HBD HQU2 HEA
        generalize w8.setCell ⟨C, 0, none⟩ (.pointer (some ⟨J, 0, none⟩)) = W5 at *
        have HN := Lib.hid (numbers_any 41 (enters_of Tryz.func41 (by kernel_rfl) rfl) #[.pointer (some ⟨C, 0, none⟩), .pointer (some ⟨B0 + 1, 0, none⟩)] ND (fun b => mrkP ms k.past (b : Int)) W5 (by omega) (fun W' hW i hi => HMK.out k W' (g0.t (g5.t hW)) J m P pa pc qa qc (F5.out.keep hW) (i : Int) C (B0 + 1) (bC.keep hW) ((b1.keep g5).keep hW)))
        unfold IvPost at HN
        have b5 := b0.keep g5
        have c1 : W5.cell? ⟨B0, 1, none⟩ = some (.int .i64 (ND : Nat)) := by rw [b5.cell 1]; have e := HB1.out; rw [HCC.out] at e; dsimp only at e; rw [← e]; rfl
        have l0 := b5.lt
        have hsz := Nat.le_trans lw g5.size
        have HG := Lib.hid (g0.t g5)
        clear b5 F5 bC b0 b1 g5 HMK
        go_wp2_with (go_at_call 40; refine HN.out.mono ?_; rintro e w9 ⟨v, rfl, ho, hG9⟩; have HO := Lib.hid (own_weaken ho hsz); clear ho)
        first | exact HZ.out _ _ HO.out (HG.out.t hG9) | (go_ret; exact HZ.out _ _ HO.out (HG.out.t hG9))
end Go.Proofs.YtabnpimidhlbiaaGreat

set_option linter.unusedSimpArgs false
set_option linter.unusedVariables false
namespace Go.Proofs.YtabnpimidhlbiaaGreat
open Go.RowKit Go.Shelf Go.Sort
attribute [local go_sem] Oper.semAt_some min2 max2
/-- does a duty guard a basket in one of the minutes from lo to hi? -/
def grdB (p : Pe) (lo hi m : Int) (d : Du) : Bool := decide (d.mb = m) && decide (d.bk = p.bk) && decide (max d.fr lo ≤ min d.to hi)
set_option maxRecDepth 100000 in
set_option maxHeartbeats 8000000 in
theorem guard1_any (p : Pe) (lo hi m : Int) (d : Du) (PB MB CB PK : Nat) (w : World) (hM : Blk w MB 3 #[.int .i64 m]) (hB : Blk w PB 91 #[.pointer (some ⟨PK, 0, none⟩)]) (hP : Blk w PK 100 p.v) (hC : Blk w CB 61 #[.int .i64 lo, .int .i64 hi]) :
    Calls Tryz.prog 79 #[.agg d.v, .pointer (some ⟨MB, 0, none⟩), .pointer (some ⟨PB, 0, none⟩), .pointer (some ⟨CB, 0, none⟩)] w fun e w' => e = .returned (.bool (grdB p lo hi m d)) ∧ G w w' := by
  unfold grdB
  obtain ⟨xbk, xsl, xfr, xwh, xen, xbr⟩ := p
  obtain ⟨zmb, zbk, zfr, zto⟩ := d
  unfold Pe.v Du.v at *
  dsimp only at *
  have g0 : G w (w.alloc (.cells #[.int .i64 zmb, .int .i64 zbk, .int .i64 zfr, .int .i64 zto] 56)) := (G.rf _).a _
  have bD : Blk (w.alloc (.cells #[.int .i64 zmb, .int .i64 zbk, .int .i64 zfr, .int .i64 zto] 56)) w.heap.size 56 #[.int .i64 zmb, .int .i64 zbk, .int .i64 zfr, .int .i64 zto] := Blk.new _ _ _
  have bM := hM.keep g0
  have bB := hB.keep g0
  have bP := hP.keep g0
  have bC := hC.keep g0
  clear hM hB hP hC
  go_enter Tryz.func79, Tryz.ntmps79
  go_upto_region 1 with fail
  change Code.wp _ _ _ _ (w.alloc (.cells #[.int .i64 zmb, .int .i64 zbk, .int .i64 zfr, .int .i64 zto] 56))
  obtain ⟨DB, hDB⟩ : ∃ DB, DB = w.heap.size := ⟨_, rfl⟩
  rw [← hDB] at bD ⊢
  clear hDB
  generalize w.alloc (.cells #[.int .i64 zmb, .int .i64 zbk, .int .i64 zfr, .int .i64 zto] 56) = W1 at *
  by_cases h1 : zmb = m
  · subst h1
    by_cases h2 : zbk = xbk
    · subst h2
      refine wp_region_Y (S := fun W' => Blk W' DB 56 #[.int .i64 zmb, .int .i64 zbk, .int .i64 zfr, .int .i64 zto] ∧ Blk W' MB 3 #[.int .i64 zmb] ∧ Blk W' PB 91 #[.pointer (some ⟨PK, 0, none⟩)] ∧ Blk W' PK 100 #[.int .i64 zbk, .int .i64 xsl, .int .i64 xfr, .int .i64 xwh, .int .i64 xen, .bool xbr] ∧ Blk W' CB 61 #[.int .i64 lo, .int .i64 hi]) 26 27 rfl (by kernel_rfl) ⟨bD.drewN 1, bM.drewN 1, bB.drewN 1, bP.drewN 1, bC.drewN 1⟩ (fun hS => ?_)
      have gd := g0.d
      clear g0 bD bM bB bP bC
      generalize W1.drew = WD at *
      refine wpAnyY_take (i := 0) (v := ?_) rfl (by kernel_rfl) (by kernel_rfl) (by kernel_rfl) (by kernel_rfl) (fun _ _ _ h => h) (Or.inl ⟨by kernel_rfl, ?_⟩) hS ?_
      rotate_left
      · intro w' hSw; go_simp; with_reducible rfl
      try simp only [Act.put, zzA, zzB, zzC, zzD, zzE, zzF]
      refine wpAnyY_take (i := 1) (v := ?_) rfl (by kernel_rfl) (by kernel_rfl) (by kernel_rfl) (by kernel_rfl) (fun _ _ _ h => h) (Or.inl ⟨by kernel_rfl, ?_⟩) hS ?_
      rotate_left
      · intro w' hSw; obtain ⟨t1, t2, t3, t4, t5⟩ := hSw; have d0 := t1.cell 0; have d1 := t1.cell 1; have d2 := t1.cell 2; have d3 := t1.cell 3; have m0 := t2.cell 0; have p0 := t3.cell 0; have q0 := t4.cell 0; have c0 := t5.cell 0; have c1 := t5.cell 1; have l1 := t1.lt; have l2 := t2.lt; have l3 := t3.lt; have l4 := t4.lt; have l5 := t5.lt; go_simp; with_reducible rfl
      try simp only [Act.put, zzA, zzB, zzC, zzD, zzE, zzF]
      refine wpAnyY_take (i := 2) (v := ?_) rfl (by kernel_rfl) (by kernel_rfl) (by kernel_rfl) (by kernel_rfl) (fun _ _ _ h => h) (Or.inl ⟨by kernel_rfl, ?_⟩) hS ?_
      rotate_left
      · intro w' hSw; obtain ⟨t1, t2, t3, t4, t5⟩ := hSw; have d0 := t1.cell 0; have d1 := t1.cell 1; have d2 := t1.cell 2; have d3 := t1.cell 3; have m0 := t2.cell 0; have p0 := t3.cell 0; have q0 := t4.cell 0; have c0 := t5.cell 0; have c1 := t5.cell 1; have l1 := t1.lt; have l2 := t2.lt; have l3 := t3.lt; have l4 := t4.lt; have l5 := t5.lt; go_simp; with_reducible rfl
      try simp only [Act.put, zzA, zzB, zzC, zzD, zzE, zzF]
      refine wpAnyY_take (i := 3) (v := ?_) rfl (by kernel_rfl) (by kernel_rfl) (by kernel_rfl) (by kernel_rfl) (fun _ _ _ h => h) (Or.inl ⟨by kernel_rfl, ?_⟩) hS ?_
      rotate_left
      · intro w' hSw; go_simp; with_reducible rfl
      try simp only [Act.put, zzA, zzB, zzC, zzD, zzE, zzF]
      refine wpAnyY_take (i := 4) (v := ?_) rfl (by kernel_rfl) (by kernel_rfl) (by kernel_rfl) (by kernel_rfl) (fun _ _ _ h => h) (Or.inl ⟨by kernel_rfl, ?_⟩) hS ?_
      rotate_left
      · intro w' hSw; go_simp; with_reducible rfl
      try simp only [Act.put, zzA, zzB, zzC, zzD, zzE, zzF]
      refine wpAnyY_take (i := 5) (v := ?_) rfl (by kernel_rfl) (by kernel_rfl) (by kernel_rfl) (by kernel_rfl) (fun _ _ _ h => h) (Or.inl ⟨by kernel_rfl, ?_⟩) hS ?_
      rotate_left
      · intro w' hSw; go_simp; with_reducible rfl
      try simp only [Act.put, zzA, zzB, zzC, zzD, zzE, zzF]
      refine wpAnyY_take (i := 6) (v := ?_) rfl (by kernel_rfl) (by kernel_rfl) (by kernel_rfl) (by kernel_rfl) (fun _ _ _ h => h) (Or.inl ⟨by kernel_rfl, ?_⟩) hS ?_
      rotate_left
      · intro w' hSw; obtain ⟨t1, t2, t3, t4, t5⟩ := hSw; have d0 := t1.cell 0; have d1 := t1.cell 1; have d2 := t1.cell 2; have d3 := t1.cell 3; have m0 := t2.cell 0; have p0 := t3.cell 0; have q0 := t4.cell 0; have c0 := t5.cell 0; have c1 := t5.cell 1; have l1 := t1.lt; have l2 := t2.lt; have l3 := t3.lt; have l4 := t4.lt; have l5 := t5.lt; go_simp; with_reducible rfl
      try simp only [Act.put, zzA, zzB, zzC, zzD, zzE, zzF]
      refine wpAnyY_take (i := 7) (v := ?_) rfl (by kernel_rfl) (by kernel_rfl) (by kernel_rfl) (by kernel_rfl) (fun _ _ _ h => h) (Or.inl ⟨by kernel_rfl, ?_⟩) hS ?_
      rotate_left
      · intro w' hSw; obtain ⟨t1, t2, t3, t4, t5⟩ := hSw; have d0 := t1.cell 0; have d1 := t1.cell 1; have d2 := t1.cell 2; have d3 := t1.cell 3; have m0 := t2.cell 0; have p0 := t3.cell 0; have q0 := t4.cell 0; have c0 := t5.cell 0; have c1 := t5.cell 1; have l1 := t1.lt; have l2 := t2.lt; have l3 := t3.lt; have l4 := t4.lt; have l5 := t5.lt; go_simp; with_reducible rfl
      try simp only [Act.put, zzA, zzB, zzC, zzD, zzE, zzF]
      refine wpAnyY_take (i := 8) (v := ?_) rfl (by kernel_rfl) (by kernel_rfl) (by kernel_rfl) (by kernel_rfl) (fun _ _ _ h => h) (Or.inl ⟨by kernel_rfl, ?_⟩) hS ?_
      rotate_left
      · intro w' hSw; go_simp; with_reducible rfl
      try simp only [Act.put, zzA, zzB, zzC, zzD, zzE, zzF]
      refine wpAnyY_take (i := 9) (v := ?_) rfl (by kernel_rfl) (by kernel_rfl) (by kernel_rfl) (by kernel_rfl) (fun _ _ _ h => h) (Or.inl ⟨by kernel_rfl, ?_⟩) hS ?_
      rotate_left
      · intro w' hSw; go_simp; with_reducible rfl
      try simp only [Act.put, zzA, zzB, zzC, zzD, zzE, zzF]
      refine wpAnyY_take (i := 10) (v := ?_) rfl (by kernel_rfl) (by kernel_rfl) (by kernel_rfl) (by kernel_rfl) (fun _ _ _ h => h) (Or.inl ⟨by kernel_rfl, ?_⟩) hS ?_
      rotate_left
      · intro w' hSw; obtain ⟨t1, t2, t3, t4, t5⟩ := hSw; have d0 := t1.cell 0; have d1 := t1.cell 1; have d2 := t1.cell 2; have d3 := t1.cell 3; have m0 := t2.cell 0; have p0 := t3.cell 0; have q0 := t4.cell 0; have c0 := t5.cell 0; have c1 := t5.cell 1; have l1 := t1.lt; have l2 := t2.lt; have l3 := t3.lt; have l4 := t4.lt; have l5 := t5.lt; go_simp; with_reducible rfl
      try simp only [Act.put, zzA, zzB, zzC, zzD, zzE, zzF]
      refine wpAnyY_take (i := 11) (v := ?_) rfl (by kernel_rfl) (by kernel_rfl) (by kernel_rfl) (by kernel_rfl) (fun _ _ _ h => h) (Or.inl ⟨by kernel_rfl, ?_⟩) hS ?_
      rotate_left
      · intro w' hSw; go_simp; with_reducible rfl
      try simp only [Act.put, zzA, zzB, zzC, zzD, zzE, zzF]
      refine wpAnyY_take (i := 12) (v := ?_) rfl (by kernel_rfl) (by kernel_rfl) (by kernel_rfl) (by kernel_rfl) (fun _ _ _ h => h) (Or.inl ⟨by kernel_rfl, ?_⟩) hS ?_
      rotate_left
      · intro w' hSw; go_simp; with_reducible rfl
      try simp only [Act.put, zzA, zzB, zzC, zzD, zzE, zzF]
      refine wpAnyY_take (i := 13) (v := ?_) rfl (by kernel_rfl) (by kernel_rfl) (by kernel_rfl) (by kernel_rfl) (fun _ _ _ h => h) (Or.inl ⟨by kernel_rfl, ?_⟩) hS ?_
      rotate_left
      · intro w' hSw; go_simp; with_reducible rfl
      try simp only [Act.put, zzA, zzB, zzC, zzD, zzE, zzF]
      refine wpAnyY_take (i := 14) (v := ?_) rfl (by kernel_rfl) (by kernel_rfl) (by kernel_rfl) (by kernel_rfl) (fun _ _ _ h => h) (Or.inl ⟨by kernel_rfl, ?_⟩) hS ?_
      rotate_left
      · intro w' hSw; go_simp; with_reducible rfl
      try simp only [Act.put, zzA, zzB, zzC, zzD, zzE, zzF]
      refine wpAnyY_take (i := 15) (v := ?_) rfl (by kernel_rfl) (by kernel_rfl) (by kernel_rfl) (by kernel_rfl) (fun _ _ _ h => h) (Or.inl ⟨by kernel_rfl, ?_⟩) hS ?_
      rotate_left
      · intro w' hSw; obtain ⟨t1, t2, t3, t4, t5⟩ := hSw; have d0 := t1.cell 0; have d1 := t1.cell 1; have d2 := t1.cell 2; have d3 := t1.cell 3; have m0 := t2.cell 0; have p0 := t3.cell 0; have q0 := t4.cell 0; have c0 := t5.cell 0; have c1 := t5.cell 1; have l1 := t1.lt; have l2 := t2.lt; have l3 := t3.lt; have l4 := t4.lt; have l5 := t5.lt; go_simp; with_reducible rfl
      try simp only [Act.put, zzA, zzB, zzC, zzD, zzE, zzF]
      refine wpAnyY_take (i := 16) (v := ?_) rfl (by kernel_rfl) (by kernel_rfl) (by kernel_rfl) (by kernel_rfl) (fun _ _ _ h => h) (Or.inl ⟨by kernel_rfl, ?_⟩) hS ?_
      rotate_left
      · intro w' hSw; go_simp; with_reducible rfl
      try simp only [Act.put, zzA, zzB, zzC, zzD, zzE, zzF]
      refine wpAnyY_take (i := 17) (v := ?_) rfl (by kernel_rfl) (by kernel_rfl) (by kernel_rfl) (by kernel_rfl) (fun _ _ _ h => h) (Or.inl ⟨by kernel_rfl, ?_⟩) hS ?_
      rotate_left
      · intro w' hSw; obtain ⟨t1, t2, t3, t4, t5⟩ := hSw; have d0 := t1.cell 0; have d1 := t1.cell 1; have d2 := t1.cell 2; have d3 := t1.cell 3; have m0 := t2.cell 0; have p0 := t3.cell 0; have q0 := t4.cell 0; have c0 := t5.cell 0; have c1 := t5.cell 1; have l1 := t1.lt; have l2 := t2.lt; have l3 := t3.lt; have l4 := t4.lt; have l5 := t5.lt; go_simp; with_reducible rfl
      try simp only [Act.put, zzA, zzB, zzC, zzD, zzE, zzF]
      refine wpAnyY_take (i := 18) (v := ?_) rfl (by kernel_rfl) (by kernel_rfl) (by kernel_rfl) (by kernel_rfl) (fun _ _ _ h => h) (Or.inl ⟨by kernel_rfl, ?_⟩) hS ?_
      rotate_left
      · intro w' hSw; go_simp; with_reducible rfl
      try simp only [Act.put, zzA, zzB, zzC, zzD, zzE, zzF]
      refine wpAnyY_take (i := 19) (v := ?_) rfl (by kernel_rfl) (by kernel_rfl) (by kernel_rfl) (by kernel_rfl) (fun _ _ _ h => h) (Or.inl ⟨by kernel_rfl, ?_⟩) hS ?_
      rotate_left
      · intro w' hSw; go_simp; with_reducible rfl
      try simp only [Act.put, zzA, zzB, zzC, zzD, zzE, zzF]
      refine wpAnyY_take (i := 20) (v := ?_) rfl (by kernel_rfl) (by kernel_rfl) (by kernel_rfl) (by kernel_rfl) (fun _ _ _ h => h) (Or.inl ⟨by kernel_rfl, ?_⟩) hS ?_
      rotate_left
      · intro w' hSw; obtain ⟨t1, t2, t3, t4, t5⟩ := hSw; have d0 := t1.cell 0; have d1 := t1.cell 1; have d2 := t1.cell 2; have d3 := t1.cell 3; have m0 := t2.cell 0; have p0 := t3.cell 0; have q0 := t4.cell 0; have c0 := t5.cell 0; have c1 := t5.cell 1; have l1 := t1.lt; have l2 := t2.lt; have l3 := t3.lt; have l4 := t4.lt; have l5 := t5.lt; go_simp; with_reducible rfl
      try simp only [Act.put, zzA, zzB, zzC, zzD, zzE, zzF]
      refine wpAnyY_take (i := 21) (v := ?_) rfl (by kernel_rfl) (by kernel_rfl) (by kernel_rfl) (by kernel_rfl) (fun _ _ _ h => h) (Or.inl ⟨by kernel_rfl, ?_⟩) hS ?_
      rotate_left
      · intro w' hSw; go_simp; with_reducible rfl
      try simp only [Act.put, zzA, zzB, zzC, zzD, zzE, zzF]
      refine wpAnyY_take (i := 22) (v := ?_) rfl (by kernel_rfl) (by kernel_rfl) (by kernel_rfl) (by kernel_rfl) (fun _ _ _ h => h) (Or.inl ⟨by kernel_rfl, ?_⟩) hS ?_
      rotate_left
      · intro w' hSw; obtain ⟨t1, t2, t3, t4, t5⟩ := hSw; have d0 := t1.cell 0; have d1 := t1.cell 1; have d2 := t1.cell 2; have d3 := t1.cell 3; have m0 := t2.cell 0; have p0 := t3.cell 0; have q0 := t4.cell 0; have c0 := t5.cell 0; have c1 := t5.cell 1; have l1 := t1.lt; have l2 := t2.lt; have l3 := t3.lt; have l4 := t4.lt; have l5 := t5.lt; go_simp; with_reducible rfl
      try simp only [Act.put, zzA, zzB, zzC, zzD, zzE, zzF]
      refine wpAnyY_take (i := 23) (v := ?_) rfl (by kernel_rfl) (by kernel_rfl) (by kernel_rfl) (by kernel_rfl) (fun _ _ _ h => h) (Or.inl ⟨by kernel_rfl, ?_⟩) hS ?_
      rotate_left
      · intro w' hSw; go_simp; with_reducible rfl
      try simp only [Act.put, zzA, zzB, zzC, zzD, zzE, zzF]
      refine wpAnyY_take (i := 24) (v := ?_) rfl (by kernel_rfl) (by kernel_rfl) (by kernel_rfl) (by kernel_rfl) (fun _ _ _ h => h) (Or.inl ⟨by kernel_rfl, ?_⟩) hS ?_
      rotate_left
      · intro w' hSw; go_simp; with_reducible rfl
      try simp only [Act.put, zzA, zzB, zzC, zzD, zzE, zzF]
      refine wpAnyY_take (i := 25) (v := ?_) rfl (by kernel_rfl) (by kernel_rfl) (by kernel_rfl) (by kernel_rfl) (fun _ _ _ h => h) (Or.inl ⟨by kernel_rfl, ?_⟩) hS ?_
      rotate_left
      · intro w' hSw; go_simp; with_reducible rfl
      try simp only [Act.put, zzA, zzB, zzC, zzD, zzE, zzF]
      refine wpAnyY_oneW (i := 26) (by kernel_rfl) rfl (by kernel_rfl) (by kernel_rfl) (fun K26 hK26 => ?_)
      go_simp
      refine hK26.out _ _ ?_
      clear hK26
      try simp only [Act.put, zzA, zzB, zzC, zzD, zzE, zzF]
      refine wpAnyY_done (by kernel_rfl) ?_ _
      clear hS
      go_wp2_with fail
      go_ret
      exact ⟨by simp, gd⟩
    · have h2b : (zbk == xbk) = false := by simpa using h2
      refine wp_region_Y (S := fun W' => Blk W' DB 56 #[.int .i64 zmb, .int .i64 zbk, .int .i64 zfr, .int .i64 zto] ∧ Blk W' MB 3 #[.int .i64 zmb] ∧ Blk W' PB 91 #[.pointer (some ⟨PK, 0, none⟩)] ∧ Blk W' PK 100 #[.int .i64 xbk, .int .i64 xsl, .int .i64 xfr, .int .i64 xwh, .int .i64 xen, .bool xbr] ∧ Blk W' CB 61 #[.int .i64 lo, .int .i64 hi]) 26 27 rfl (by kernel_rfl) ⟨bD.drewN 1, bM.drewN 1, bB.drewN 1, bP.drewN 1, bC.drewN 1⟩ (fun hS => ?_)
      have gd := g0.d
      clear g0 bD bM bB bP bC
      generalize W1.drew = WD at *
      refine wpAnyY_take (i := 0) (v := ?_) rfl (by kernel_rfl) (by kernel_rfl) (by kernel_rfl) (by kernel_rfl) (fun _ _ _ h => h) (Or.inl ⟨by kernel_rfl, ?_⟩) hS ?_
      rotate_left
      · intro w' hSw; go_simp; with_reducible rfl
      try simp only [Act.put, zzA, zzB, zzC, zzD, zzE, zzF]
      refine wpAnyY_take (i := 1) (v := ?_) rfl (by kernel_rfl) (by kernel_rfl) (by kernel_rfl) (by kernel_rfl) (fun _ _ _ h => h) (Or.inl ⟨by kernel_rfl, ?_⟩) hS ?_
      rotate_left
      · intro w' hSw; obtain ⟨t1, t2, t3, t4, t5⟩ := hSw; have d0 := t1.cell 0; have d1 := t1.cell 1; have d2 := t1.cell 2; have d3 := t1.cell 3; have m0 := t2.cell 0; have p0 := t3.cell 0; have q0 := t4.cell 0; have c0 := t5.cell 0; have c1 := t5.cell 1; have l1 := t1.lt; have l2 := t2.lt; have l3 := t3.lt; have l4 := t4.lt; have l5 := t5.lt; go_simp; with_reducible rfl
      try simp only [Act.put, zzA, zzB, zzC, zzD, zzE, zzF]
      refine wpAnyY_take (i := 2) (v := ?_) rfl (by kernel_rfl) (by kernel_rfl) (by kernel_rfl) (by kernel_rfl) (fun _ _ _ h => h) (Or.inl ⟨by kernel_rfl, ?_⟩) hS ?_
      rotate_left
      · intro w' hSw; obtain ⟨t1, t2, t3, t4, t5⟩ := hSw; have d0 := t1.cell 0; have d1 := t1.cell 1; have d2 := t1.cell 2; have d3 := t1.cell 3; have m0 := t2.cell 0; have p0 := t3.cell 0; have q0 := t4.cell 0; have c0 := t5.cell 0; have c1 := t5.cell 1; have l1 := t1.lt; have l2 := t2.lt; have l3 := t3.lt; have l4 := t4.lt; have l5 := t5.lt; go_simp; with_reducible rfl
      try simp only [Act.put, zzA, zzB, zzC, zzD, zzE, zzF]
      refine wpAnyY_take (i := 3) (v := ?_) rfl (by kernel_rfl) (by kernel_rfl) (by kernel_rfl) (by kernel_rfl) (fun _ _ _ h => h) (Or.inl ⟨by kernel_rfl, ?_⟩) hS ?_
      rotate_left
      · intro w' hSw; go_simp; with_reducible rfl
      try simp only [Act.put, zzA, zzB, zzC, zzD, zzE, zzF]
      refine wpAnyY_take (i := 4) (v := ?_) rfl (by kernel_rfl) (by kernel_rfl) (by kernel_rfl) (by kernel_rfl) (fun _ _ _ h => h) (Or.inl ⟨by kernel_rfl, ?_⟩) hS ?_
      rotate_left
      · intro w' hSw; go_simp; with_reducible rfl
      try simp only [Act.put, zzA, zzB, zzC, zzD, zzE, zzF]
      refine wpAnyY_take (i := 5) (v := ?_) rfl (by kernel_rfl) (by kernel_rfl) (by kernel_rfl) (by kernel_rfl) (fun _ _ _ h => h) (Or.inl ⟨by kernel_rfl, ?_⟩) hS ?_
      rotate_left
      · intro w' hSw; go_simp; with_reducible rfl
      try simp only [Act.put, zzA, zzB, zzC, zzD, zzE, zzF]
      refine wpAnyY_take (i := 6) (v := ?_) rfl (by kernel_rfl) (by kernel_rfl) (by kernel_rfl) (by kernel_rfl) (fun _ _ _ h => h) (Or.inl ⟨by kernel_rfl, ?_⟩) hS ?_
      rotate_left
      · intro w' hSw; obtain ⟨t1, t2, t3, t4, t5⟩ := hSw; have d0 := t1.cell 0; have d1 := t1.cell 1; have d2 := t1.cell 2; have d3 := t1.cell 3; have m0 := t2.cell 0; have p0 := t3.cell 0; have q0 := t4.cell 0; have c0 := t5.cell 0; have c1 := t5.cell 1; have l1 := t1.lt; have l2 := t2.lt; have l3 := t3.lt; have l4 := t4.lt; have l5 := t5.lt; go_simp; with_reducible rfl
      try simp only [Act.put, zzA, zzB, zzC, zzD, zzE, zzF]
      refine wpAnyY_take (i := 7) (v := ?_) rfl (by kernel_rfl) (by kernel_rfl) (by kernel_rfl) (by kernel_rfl) (fun _ _ _ h => h) (Or.inl ⟨by kernel_rfl, ?_⟩) hS ?_
      rotate_left
      · intro w' hSw; obtain ⟨t1, t2, t3, t4, t5⟩ := hSw; have d0 := t1.cell 0; have d1 := t1.cell 1; have d2 := t1.cell 2; have d3 := t1.cell 3; have m0 := t2.cell 0; have p0 := t3.cell 0; have q0 := t4.cell 0; have c0 := t5.cell 0; have c1 := t5.cell 1; have l1 := t1.lt; have l2 := t2.lt; have l3 := t3.lt; have l4 := t4.lt; have l5 := t5.lt; go_simp; with_reducible rfl
      try simp only [Act.put, zzA, zzB, zzC, zzD, zzE, zzF]
      refine wpAnyY_take (i := 8) (v := ?_) rfl (by kernel_rfl) (by kernel_rfl) (by kernel_rfl) (by kernel_rfl) (fun _ _ _ h => h) (Or.inl ⟨by kernel_rfl, ?_⟩) hS ?_
      rotate_left
      · intro w' hSw; go_simp; with_reducible rfl
      try simp only [Act.put, zzA, zzB, zzC, zzD, zzE, zzF]
      refine wpAnyY_take (i := 9) (v := ?_) rfl (by kernel_rfl) (by kernel_rfl) (by kernel_rfl) (by kernel_rfl) (fun _ _ _ h => h) (Or.inl ⟨by kernel_rfl, ?_⟩) hS ?_
      rotate_left
      · intro w' hSw; go_simp; with_reducible rfl
      try simp only [Act.put, zzA, zzB, zzC, zzD, zzE, zzF]
      refine wpAnyY_take (i := 10) (v := ?_) rfl (by kernel_rfl) (by kernel_rfl) (by kernel_rfl) (by kernel_rfl) (fun _ _ _ h => h) (Or.inl ⟨by kernel_rfl, ?_⟩) hS ?_
      rotate_left
      · intro w' hSw; obtain ⟨t1, t2, t3, t4, t5⟩ := hSw; have d0 := t1.cell 0; have d1 := t1.cell 1; have d2 := t1.cell 2; have d3 := t1.cell 3; have m0 := t2.cell 0; have p0 := t3.cell 0; have q0 := t4.cell 0; have c0 := t5.cell 0; have c1 := t5.cell 1; have l1 := t1.lt; have l2 := t2.lt; have l3 := t3.lt; have l4 := t4.lt; have l5 := t5.lt; go_simp; with_reducible rfl
      try simp only [Act.put, zzA, zzB, zzC, zzD, zzE, zzF]
      refine wpAnyY_take (i := 11) (v := ?_) rfl (by kernel_rfl) (by kernel_rfl) (by kernel_rfl) (by kernel_rfl) (fun _ _ _ h => h) (Or.inl ⟨by kernel_rfl, ?_⟩) hS ?_
      rotate_left
      · intro w' hSw; go_simp; with_reducible rfl
      try simp only [Act.put, zzA, zzB, zzC, zzD, zzE, zzF]
      refine wpAnyY_take (i := 12) (v := ?_) rfl (by kernel_rfl) (by kernel_rfl) (by kernel_rfl) (by kernel_rfl) (fun _ _ _ h => h) (Or.inl ⟨by kernel_rfl, ?_⟩) hS ?_
      rotate_left
      · intro w' hSw; go_simp; with_reducible rfl
      try simp only [Act.put, zzA, zzB, zzC, zzD, zzE, zzF]
      refine wpAnyY_take (i := 13) (v := ?_) rfl (by kernel_rfl) (by kernel_rfl) (by kernel_rfl) (by kernel_rfl) (fun _ _ _ h => h) (Or.inl ⟨by kernel_rfl, ?_⟩) hS ?_
      rotate_left
      · intro w' hSw; go_simp; with_reducible rfl
      try simp only [Act.put, zzA, zzB, zzC, zzD, zzE, zzF]
      refine wpAnyY_take (i := 14) (v := undef) rfl (by kernel_rfl) (by kernel_rfl) (by kernel_rfl) (by kernel_rfl) (fun _ _ _ h => h) (Or.inr ⟨by kernel_rfl, rfl⟩) hS ?_
      try simp only [Act.put, zzA, zzB, zzC, zzD, zzE, zzF]
      refine wpAnyY_take (i := 15) (v := undef) rfl (by kernel_rfl) (by kernel_rfl) (by kernel_rfl) (by kernel_rfl) (fun _ _ _ h => h) (Or.inr ⟨by kernel_rfl, rfl⟩) hS ?_
      try simp only [Act.put, zzA, zzB, zzC, zzD, zzE, zzF]
      refine wpAnyY_take (i := 16) (v := undef) rfl (by kernel_rfl) (by kernel_rfl) (by kernel_rfl) (by kernel_rfl) (fun _ _ _ h => h) (Or.inr ⟨by kernel_rfl, rfl⟩) hS ?_
      try simp only [Act.put, zzA, zzB, zzC, zzD, zzE, zzF]
      refine wpAnyY_take (i := 17) (v := undef) rfl (by kernel_rfl) (by kernel_rfl) (by kernel_rfl) (by kernel_rfl) (fun _ _ _ h => h) (Or.inr ⟨by kernel_rfl, rfl⟩) hS ?_
      try simp only [Act.put, zzA, zzB, zzC, zzD, zzE, zzF]
      refine wpAnyY_take (i := 18) (v := undef) rfl (by kernel_rfl) (by kernel_rfl) (by kernel_rfl) (by kernel_rfl) (fun _ _ _ h => h) (Or.inr ⟨by kernel_rfl, rfl⟩) hS ?_
      try simp only [Act.put, zzA, zzB, zzC, zzD, zzE, zzF]
      refine wpAnyY_take (i := 19) (v := undef) rfl (by kernel_rfl) (by kernel_rfl) (by kernel_rfl) (by kernel_rfl) (fun _ _ _ h => h) (Or.inr ⟨by kernel_rfl, rfl⟩) hS ?_
      try simp only [Act.put, zzA, zzB, zzC, zzD, zzE, zzF]
      refine wpAnyY_take (i := 20) (v := undef) rfl (by kernel_rfl) (by kernel_rfl) (by kernel_rfl) (by kernel_rfl) (fun _ _ _ h => h) (Or.inr ⟨by kernel_rfl, rfl⟩) hS ?_
      try simp only [Act.put, zzA, zzB, zzC, zzD, zzE, zzF]
      refine wpAnyY_take (i := 21) (v := undef) rfl (by kernel_rfl) (by kernel_rfl) (by kernel_rfl) (by kernel_rfl) (fun _ _ _ h => h) (Or.inr ⟨by kernel_rfl, rfl⟩) hS ?_
      try simp only [Act.put, zzA, zzB, zzC, zzD, zzE, zzF]
      refine wpAnyY_take (i := 22) (v := undef) rfl (by kernel_rfl) (by kernel_rfl) (by kernel_rfl) (by kernel_rfl) (fun _ _ _ h => h) (Or.inr ⟨by kernel_rfl, rfl⟩) hS ?_
      try simp only [Act.put, zzA, zzB, zzC, zzD, zzE, zzF]
      refine wpAnyY_take (i := 23) (v := undef) rfl (by kernel_rfl) (by kernel_rfl) (by kernel_rfl) (by kernel_rfl) (fun _ _ _ h => h) (Or.inr ⟨by kernel_rfl, rfl⟩) hS ?_
      try simp only [Act.put, zzA, zzB, zzC, zzD, zzE, zzF]
      refine wpAnyY_take (i := 24) (v := undef) rfl (by kernel_rfl) (by kernel_rfl) (by kernel_rfl) (by kernel_rfl) (fun _ _ _ h => h) (Or.inr ⟨by kernel_rfl, rfl⟩) hS ?_
      try simp only [Act.put, zzA, zzB, zzC, zzD, zzE, zzF]
      refine wpAnyY_take (i := 25) (v := ?_) rfl (by kernel_rfl) (by kernel_rfl) (by kernel_rfl) (by kernel_rfl) (fun _ _ _ h => h) (Or.inl ⟨by kernel_rfl, ?_⟩) hS ?_
      rotate_left
      · intro w' hSw; go_simp; with_reducible rfl
      try simp only [Act.put, zzA, zzB, zzC, zzD, zzE, zzF]
      refine wpAnyY_oneW (i := 26) (by kernel_rfl) rfl (by kernel_rfl) (by kernel_rfl) (fun K26 hK26 => ?_)
      go_simp
      refine hK26.out _ _ ?_
      clear hK26
      try simp only [Act.put, zzA, zzB, zzC, zzD, zzE, zzF]
      refine wpAnyY_done (by kernel_rfl) ?_ _
      clear hS
      go_wp2_with fail
      go_ret
      exact ⟨by simp [h2], gd⟩
  · have h1b : (zmb == m) = false := by simpa using h1
    refine wp_region_Y (S := fun W' => Blk W' DB 56 #[.int .i64 zmb, .int .i64 zbk, .int .i64 zfr, .int .i64 zto] ∧ Blk W' MB 3 #[.int .i64 m] ∧ Blk W' PB 91 #[.pointer (some ⟨PK, 0, none⟩)] ∧ Blk W' PK 100 #[.int .i64 xbk, .int .i64 xsl, .int .i64 xfr, .int .i64 xwh, .int .i64 xen, .bool xbr] ∧ Blk W' CB 61 #[.int .i64 lo, .int .i64 hi]) 26 27 rfl (by kernel_rfl) ⟨bD.drewN 1, bM.drewN 1, bB.drewN 1, bP.drewN 1, bC.drewN 1⟩ (fun hS => ?_)
    have gd := g0.d
    clear g0 bD bM bB bP bC
    generalize W1.drew = WD at *
    refine wpAnyY_take (i := 0) (v := ?_) rfl (by kernel_rfl) (by kernel_rfl) (by kernel_rfl) (by kernel_rfl) (fun _ _ _ h => h) (Or.inl ⟨by kernel_rfl, ?_⟩) hS ?_
    rotate_left
    · intro w' hSw; go_simp; with_reducible rfl
    try simp only [Act.put, zzA, zzB, zzC, zzD, zzE, zzF]
    refine wpAnyY_take (i := 1) (v := ?_) rfl (by kernel_rfl) (by kernel_rfl) (by kernel_rfl) (by kernel_rfl) (fun _ _ _ h => h) (Or.inl ⟨by kernel_rfl, ?_⟩) hS ?_
    rotate_left
    · intro w' hSw; obtain ⟨t1, t2, t3, t4, t5⟩ := hSw; have d0 := t1.cell 0; have d1 := t1.cell 1; have d2 := t1.cell 2; have d3 := t1.cell 3; have m0 := t2.cell 0; have p0 := t3.cell 0; have q0 := t4.cell 0; have c0 := t5.cell 0; have c1 := t5.cell 1; have l1 := t1.lt; have l2 := t2.lt; have l3 := t3.lt; have l4 := t4.lt; have l5 := t5.lt; go_simp; with_reducible rfl
    try simp only [Act.put, zzA, zzB, zzC, zzD, zzE, zzF]
    refine wpAnyY_take (i := 2) (v := ?_) rfl (by kernel_rfl) (by kernel_rfl) (by kernel_rfl) (by kernel_rfl) (fun _ _ _ h => h) (Or.inl ⟨by kernel_rfl, ?_⟩) hS ?_
    rotate_left
    · intro w' hSw; obtain ⟨t1, t2, t3, t4, t5⟩ := hSw; have d0 := t1.cell 0; have d1 := t1.cell 1; have d2 := t1.cell 2; have d3 := t1.cell 3; have m0 := t2.cell 0; have p0 := t3.cell 0; have q0 := t4.cell 0; have c0 := t5.cell 0; have c1 := t5.cell 1; have l1 := t1.lt; have l2 := t2.lt; have l3 := t3.lt; have l4 := t4.lt; have l5 := t5.lt; go_simp; with_reducible rfl
    try simp only [Act.put, zzA, zzB, zzC, zzD, zzE, zzF]
    refine wpAnyY_take (i := 3) (v := ?_) rfl (by kernel_rfl) (by kernel_rfl) (by kernel_rfl) (by kernel_rfl) (fun _ _ _ h => h) (Or.inl ⟨by kernel_rfl, ?_⟩) hS ?_
    rotate_left
    · intro w' hSw; go_simp; with_reducible rfl
    try simp only [Act.put, zzA, zzB, zzC, zzD, zzE, zzF]
    refine wpAnyY_take (i := 4) (v := ?_) rfl (by kernel_rfl) (by kernel_rfl) (by kernel_rfl) (by kernel_rfl) (fun _ _ _ h => h) (Or.inl ⟨by kernel_rfl, ?_⟩) hS ?_
    rotate_left
    · intro w' hSw; go_simp; with_reducible rfl
    try simp only [Act.put, zzA, zzB, zzC, zzD, zzE, zzF]
    refine wpAnyY_take (i := 5) (v := undef) rfl (by kernel_rfl) (by kernel_rfl) (by kernel_rfl) (by kernel_rfl) (fun _ _ _ h => h) (Or.inr ⟨by kernel_rfl, rfl⟩) hS ?_
    try simp only [Act.put, zzA, zzB, zzC, zzD, zzE, zzF]
    refine wpAnyY_take (i := 6) (v := undef) rfl (by kernel_rfl) (by kernel_rfl) (by kernel_rfl) (by kernel_rfl) (fun _ _ _ h => h) (Or.inr ⟨by kernel_rfl, rfl⟩) hS ?_
    try simp only [Act.put, zzA, zzB, zzC, zzD, zzE, zzF]
    refine wpAnyY_take (i := 7) (v := undef) rfl (by kernel_rfl) (by kernel_rfl) (by kernel_rfl) (by kernel_rfl) (fun _ _ _ h => h) (Or.inr ⟨by kernel_rfl, rfl⟩) hS ?_
    try simp only [Act.put, zzA, zzB, zzC, zzD, zzE, zzF]
    refine wpAnyY_take (i := 8) (v := undef) rfl (by kernel_rfl) (by kernel_rfl) (by kernel_rfl) (by kernel_rfl) (fun _ _ _ h => h) (Or.inr ⟨by kernel_rfl, rfl⟩) hS ?_
    try simp only [Act.put, zzA, zzB, zzC, zzD, zzE, zzF]
    refine wpAnyY_take (i := 9) (v := undef) rfl (by kernel_rfl) (by kernel_rfl) (by kernel_rfl) (by kernel_rfl) (fun _ _ _ h => h) (Or.inr ⟨by kernel_rfl, rfl⟩) hS ?_
    try simp only [Act.put, zzA, zzB, zzC, zzD, zzE, zzF]
    refine wpAnyY_take (i := 10) (v := undef) rfl (by kernel_rfl) (by kernel_rfl) (by kernel_rfl) (by kernel_rfl) (fun _ _ _ h => h) (Or.inr ⟨by kernel_rfl, rfl⟩) hS ?_
    try simp only [Act.put, zzA, zzB, zzC, zzD, zzE, zzF]
    refine wpAnyY_take (i := 11) (v := undef) rfl (by kernel_rfl) (by kernel_rfl) (by kernel_rfl) (by kernel_rfl) (fun _ _ _ h => h) (Or.inr ⟨by kernel_rfl, rfl⟩) hS ?_
    try simp only [Act.put, zzA, zzB, zzC, zzD, zzE, zzF]
    refine wpAnyY_take (i := 12) (v := ?_) rfl (by kernel_rfl) (by kernel_rfl) (by kernel_rfl) (by kernel_rfl) (fun _ _ _ h => h) (Or.inl ⟨by kernel_rfl, ?_⟩) hS ?_
    rotate_left
    · intro w' hSw; go_simp; with_reducible rfl
    try simp only [Act.put, zzA, zzB, zzC, zzD, zzE, zzF]
    refine wpAnyY_take (i := 13) (v := ?_) rfl (by kernel_rfl) (by kernel_rfl) (by kernel_rfl) (by kernel_rfl) (fun _ _ _ h => h) (Or.inl ⟨by kernel_rfl, ?_⟩) hS ?_
    rotate_left
    · intro w' hSw; go_simp; with_reducible rfl
    try simp only [Act.put, zzA, zzB, zzC, zzD, zzE, zzF]
    refine wpAnyY_take (i := 14) (v := undef) rfl (by kernel_rfl) (by kernel_rfl) (by kernel_rfl) (by kernel_rfl) (fun _ _ _ h => h) (Or.inr ⟨by kernel_rfl, rfl⟩) hS ?_
    try simp only [Act.put, zzA, zzB, zzC, zzD, zzE, zzF]
    refine wpAnyY_take (i := 15) (v := undef) rfl (by kernel_rfl) (by kernel_rfl) (by kernel_rfl) (by kernel_rfl) (fun _ _ _ h => h) (Or.inr ⟨by kernel_rfl, rfl⟩) hS ?_
    try simp only [Act.put, zzA, zzB, zzC, zzD, zzE, zzF]
    refine wpAnyY_take (i := 16) (v := undef) rfl (by kernel_rfl) (by kernel_rfl) (by kernel_rfl) (by kernel_rfl) (fun _ _ _ h => h) (Or.inr ⟨by kernel_rfl, rfl⟩) hS ?_
    try simp only [Act.put, zzA, zzB, zzC, zzD, zzE, zzF]
    refine wpAnyY_take (i := 17) (v := undef) rfl (by kernel_rfl) (by kernel_rfl) (by kernel_rfl) (by kernel_rfl) (fun _ _ _ h => h) (Or.inr ⟨by kernel_rfl, rfl⟩) hS ?_
    try simp only [Act.put, zzA, zzB, zzC, zzD, zzE, zzF]
    refine wpAnyY_take (i := 18) (v := undef) rfl (by kernel_rfl) (by kernel_rfl) (by kernel_rfl) (by kernel_rfl) (fun _ _ _ h => h) (Or.inr ⟨by kernel_rfl, rfl⟩) hS ?_
    try simp only [Act.put, zzA, zzB, zzC, zzD, zzE, zzF]
    refine wpAnyY_take (i := 19) (v := undef) rfl (by kernel_rfl) (by kernel_rfl) (by kernel_rfl) (by kernel_rfl) (fun _ _ _ h => h) (Or.inr ⟨by kernel_rfl, rfl⟩) hS ?_
    try simp only [Act.put, zzA, zzB, zzC, zzD, zzE, zzF]
    refine wpAnyY_take (i := 20) (v := undef) rfl (by kernel_rfl) (by kernel_rfl) (by kernel_rfl) (by kernel_rfl) (fun _ _ _ h => h) (Or.inr ⟨by kernel_rfl, rfl⟩) hS ?_
    try simp only [Act.put, zzA, zzB, zzC, zzD, zzE, zzF]
    refine wpAnyY_take (i := 21) (v := undef) rfl (by kernel_rfl) (by kernel_rfl) (by kernel_rfl) (by kernel_rfl) (fun _ _ _ h => h) (Or.inr ⟨by kernel_rfl, rfl⟩) hS ?_
    try simp only [Act.put, zzA, zzB, zzC, zzD, zzE, zzF]
    refine wpAnyY_take (i := 22) (v := undef) rfl (by kernel_rfl) (by kernel_rfl) (by kernel_rfl) (by kernel_rfl) (fun _ _ _ h => h) (Or.inr ⟨by kernel_rfl, rfl⟩) hS ?_
    try simp only [Act.put, zzA, zzB, zzC, zzD, zzE, zzF]
    refine wpAnyY_take (i := 23) (v := undef) rfl (by kernel_rfl) (by kernel_rfl) (by kernel_rfl) (by kernel_rfl) (fun _ _ _ h => h) (Or.inr ⟨by kernel_rfl, rfl⟩) hS ?_
    try simp only [Act.put, zzA, zzB, zzC, zzD, zzE, zzF]
    refine wpAnyY_take (i := 24) (v := undef) rfl (by kernel_rfl) (by kernel_rfl) (by kernel_rfl) (by kernel_rfl) (fun _ _ _ h => h) (Or.inr ⟨by kernel_rfl, rfl⟩) hS ?_
    try simp only [Act.put, zzA, zzB, zzC, zzD, zzE, zzF]
    refine wpAnyY_take (i := 25) (v := ?_) rfl (by kernel_rfl) (by kernel_rfl) (by kernel_rfl) (by kernel_rfl) (fun _ _ _ h => h) (Or.inl ⟨by kernel_rfl, ?_⟩) hS ?_
    rotate_left
    · intro w' hSw; go_simp; with_reducible rfl
    try simp only [Act.put, zzA, zzB, zzC, zzD, zzE, zzF]
    refine wpAnyY_oneW (i := 26) (by kernel_rfl) rfl (by kernel_rfl) (by kernel_rfl) (fun K26 hK26 => ?_)
    go_simp
    refine hK26.out _ _ ?_
    clear hK26
    try simp only [Act.put, zzA, zzB, zzC, zzD, zzE, zzF]
    refine wpAnyY_done (by kernel_rfl) ?_ _
    clear hS
    go_wp2_with fail
    go_ret
    exact ⟨by simp [h1], gd⟩
end Go.Proofs.YtabnpimidhlbiaaGreat

set_option linter.unusedSimpArgs false
set_option linter.unusedVariables false
namespace Go.Proofs.YtabnpimidhlbiaaGreat
open Go.RowKit Go.Shelf Go.Sort
attribute [local go_sem] Oper.semAt_some
/-- did a member guard a basket in a minute in which a period could have been opened? -/
def guaB (ds : List Du) (ps : List Pe) (p : Pe) (m : Int) : Bool := anyU (fun i => grdB p (openL ps p) (p.en - 1) m (ds.getD i default)) ds.length
set_option maxRecDepth 100000 in
set_option maxHeartbeats 8000000 in
theorem guarded_any (c : Cv) (k : Jn) (p : Pe) (PK : Nat) (m0 : Int) (w : World) {J m : Nat} {P : Nat → Nat} {pa : Option Addr} {pc : Nat} {qa : Option Addr} {qc : Nat} (h : FolAt c k w J m P pa pc qa qc) (hr : RowE Du.v 4 w c.da c.duties) (hn : c.duties.length ≤ 1000) (hP : Blk w PK 100 p.v) (he : IntKind.i64.wrap (p.en - 1) = p.en - 1) :
    Calls Tryz.prog 46 #[.pointer (some ⟨J, 0, none⟩), .pointer (some ⟨PK, 0, none⟩), .int .i64 m0] w fun e w' => e = .returned (.bool (guaB c.duties k.ps p m0)) ∧ G w w' := by
  obtain ⟨g0, bP, bM⟩ := box2 w #[.pointer (some ⟨PK, 0, none⟩)] #[.int .i64 m0] 91 3
  have HO := Lib.hid (openings_any k.ps qa qc J P p PK _ (h.keep g0).jt.c6 (h.keep g0).jt.lt (h.keep g0).jt.rp h.jt.np (hP.keep g0) he)
  have HD := Lib.hid (fun (W : World) (CB : Nat) (hW : G w W) (b1 : Blk W w.heap.size 91 #[.pointer (some ⟨PK, 0, none⟩)]) (b2 : Blk W (w.heap.size + 1) 3 #[.int .i64 m0]) (bC : Blk W CB 61 #[.int .i64 (openL k.ps p), .int .i64 (p.en - 1)]) => CtDu_any 79 (enters_of Tryz.func79 (by kernel_rfl) rfl) #[.pointer (some ⟨w.heap.size + 1, 0, none⟩), .pointer (some ⟨w.heap.size, 0, none⟩), .pointer (some ⟨CB, 0, none⟩)] W c.da c.dc c.duties (fun i => grdB p (openL k.ps p) (p.en - 1) m0 (c.duties.getD i default)) hn (hr.below hW) (fun W' hW' i hi => guard1_any p (openL k.ps p) (p.en - 1) m0 (c.duties.getD i default) w.heap.size (w.heap.size + 1) CB PK W' (b2.keep hW') (b1.keep hW') (hP.keep (hW.t hW')) (bC.keep hW')))
  have j3 := (bcellB g0).1 J 3 h.jt.lt
  rw [show w.cell? ⟨J, 3, none⟩ = some (.slice c.da c.duties.length c.dc) from h.bj.cell 3] at j3
  have lJ0 := h.jt.lt
  clear h hr hP he
  unfold guaB
  generalize anyU (fun i => grdB p (openL k.ps p) (p.en - 1) m0 (c.duties.getD i default)) c.duties.length = R at *
  generalize openL k.ps p = L at *
  generalize p.en - 1 = E at *
  generalize c.duties.length = dn at *
  generalize c.da = da at *
  generalize c.dc = dc at *
  have p0 := bP.cell 0
  have lP := bP.lt
  have lJ := Nat.lt_of_lt_of_le lJ0 g0.size
  obtain ⟨W1, hW1⟩ : ∃ W1, W1 = (w.alloc (.cells #[.pointer (some ⟨PK, 0, none⟩)] 91)).alloc (.cells #[.int .i64 m0] 3) := ⟨_, rfl⟩
  rw [← hW1] at g0 bP bM HO j3 lJ p0 lP
  have HW1 := Lib.hid hW1
  clear hW1
  go_enter Tryz.func46, Tryz.ntmps46
  go_upto_region 1 with fail
  change Code.wp _ _ _ _ ((w.alloc (.cells #[.pointer (some ⟨PK, 0, none⟩)] 91)).alloc (.cells #[.int .i64 m0] 3))
  rw [← HW1.out]
  clear HW1
  go_upto_region 2 with (go_at_call 57; refine HO.out.mono ?_; rintro e w2 ⟨rfl, hG2⟩)
  clear p0 lP
  have bC : Blk (w2.alloc (.cells #[.int .i64 L, .int .i64 E] 61)) w2.heap.size 61 #[.int .i64 L, .int .i64 E] := Blk.new _ _ _
  have g3 : G W1 (w2.alloc (.cells #[.int .i64 L, .int .i64 E] 61)) := hG2.a _
  change Code.wp _ _ _ _ (w2.alloc (.cells #[.int .i64 L, .int .i64 E] 61))
  obtain ⟨CB, hCB⟩ : ∃ CB, CB = w2.heap.size := ⟨_, rfl⟩
  rw [← hCB] at bC ⊢
  clear hCB
  generalize w2.alloc (.cells #[.int .i64 L, .int .i64 E] 61) = W3 at *
  have j3' := ((bcellB g3).1 J 3 lJ).trans j3
  have lJ' := Nat.lt_of_lt_of_le lJ g3.size
  have HD2 := Lib.hid (HD.out W3 CB (g0.t g3) (bP.keep g3) (bM.keep g3) bC)
  clear j3 lJ HD HO bC bP bM
  go_wp2_with (go_at_call 78; refine HD2.out.mono ?_; rintro e w4 ⟨rfl, hG4⟩)
  first | exact ⟨rfl, g0.t (g3.t hG4)⟩ | (go_ret; exact ⟨rfl, g0.t (g3.t hG4)⟩)
end Go.Proofs.YtabnpimidhlbiaaGreat

set_option linter.unusedSimpArgs false
set_option linter.unusedVariables false
namespace Go.Proofs.YtabnpimidhlbiaaGreat
open Go.RowKit Go.Shelf Go.Sort
attribute [local go_sem] Oper.semAt_some
def aloB (ds : List Du) (ps : List Pe) (q : Nat) : Bool := allU (fun i => guaB ds ps ((brk ps).getD i default) (q : Int)) (brk ps).length
def aloL (ds : List Du) (ps : List Pe) : List Int := numL (aloB ds ps) 100
/-- what Alone answers -/
def AloPost (c : Cv) (w : World) (e : Ending) (w' : World) : Prop :=
  ∃ v l er, e = .returned (.tuple #[v, .int .i64 er]) ∧ w'.ownsRow w.heap.size 3 1 v l.length (iv l) ∧ G w w' ∧
    (folJ c = none → l = [] ∧ er = folE c) ∧ ∀ k, folJ c = some k → (brk k.ps = [] → l = [] ∧ er = 3) ∧ (brk k.ps ≠ [] → l = aloL c.duties k.ps ∧ er = 0)
set_option maxRecDepth 100000 in
set_option maxHeartbeats 8000000 in
theorem Alone_any (c : Cv) (w : World) (h : c.At w) : Calls Tryz.prog 15 #[.agg c.v] w (AloPost c w) := by
  have HF := Lib.hid (fun (W : World) (hW : G w W) => (follow_any c W (h.keep hW)).mono fun e w' hh => FolPost.two hh)
  have HP1 : Hid (folJ c = none → ∀ w', G w w' → AloPost c w (.returned (.tuple #[.slice none 0 0, .int .i64 (folE c)])) w') := fun h1 w' hG =>
    ⟨_, [], _, rfl, World.ownsRow_nil _ _ _ _, hG, fun _ => ⟨rfl, rfl⟩, fun k hk => absurd (hk.symm.trans h1) (by simp)⟩
  have HP2 : Hid (∀ k, folJ c = some k → brk k.ps = [] → ∀ w', G w w' → AloPost c w (.returned (.tuple #[.slice none 0 0, .int .i64 3])) w') := fun k hk hb w' hG =>
    ⟨_, [], _, rfl, World.ownsRow_nil _ _ _ _, hG, fun e => absurd (hk.symm.trans e) (by simp), fun k2 hk2 => by
      have e2 := hk.symm.trans hk2
      cases e2
      exact ⟨fun _ => ⟨rfl, rfl⟩, fun h => absurd hb h⟩⟩
  have HP3 : Hid (∀ k, folJ c = some k → brk k.ps ≠ [] → ∀ w' v, w'.ownsRow w.heap.size 3 1 v (aloL c.duties k.ps).length (iv (aloL c.duties k.ps)) → G w w' → AloPost c w (.returned (.tuple #[v, .int .i64 0])) w') := fun k hk hb w' v ho hG =>
    ⟨v, _, _, rfl, ho, hG, fun e => absurd (hk.symm.trans e) (by simp), fun k2 hk2 => by
      have e2 := hk.symm.trans hk2
      cases e2
      exact ⟨fun h => absurd h hb, fun _ => ⟨rfl, rfl⟩⟩⟩
  have HEN := Lib.hid (fun (k : Jn) (hk : folJ c = some k) => folJ_enb hk)
  have HGU := Lib.hid (fun (k : Jn) (hk : folJ c = some k) (W : World) (hW : G w W) (J m : Nat) (P : Nat → Nat) (pa : Option Addr) (pc : Nat) (qa : Option Addr) (qc : Nat) (hF : FolAt c k W J m P pa pc qa qc) (p : Pe) (PK : Nat) (m0 : Int) (hP : Blk W PK 100 p.v) (he : IntKind.i64.wrap (p.en - 1) = p.en - 1) => guarded_any c k p PK m0 W hF (h.rd.below hW) h.nd hP he)
  generalize AloPost c w = PP at *
  clear h
  obtain ⟨FE, hFE⟩ : ∃ FE, FE = folE c := ⟨_, rfl⟩
  rw [← hFE] at HF HP1
  clear hFE
  obtain ⟨CC, hCC⟩ : ∃ CC, CC = c := ⟨_, rfl⟩
  rw [← hCC] at HP1 HP2 HP3 HEN HGU
  have HCC := Lib.hid hCC
  clear hCC
  obtain ⟨cbks, cbds, caa, cac, cacts, cda, cdc, cduties, cen⟩ := c
  unfold Cv.v at *
  dsimp only at *
  have g0 : G w (w.alloc (.cells #[.int .i64 cbks, .int .i64 cbds, .slice caa cacts.length cac, .slice cda cduties.length cdc, .int .i64 cen] 25)) := (G.rf _).a _
  have b0 : Blk (w.alloc (.cells #[.int .i64 cbks, .int .i64 cbds, .slice caa cacts.length cac, .slice cda cduties.length cdc, .int .i64 cen] 25)) w.heap.size 25 #[.int .i64 cbks, .int .i64 cbds, .slice caa cacts.length cac, .slice cda cduties.length cdc, .int .i64 cen] := Blk.new _ _ _
  have m0 := b0.cell 0
  have m1 := b0.cell 1
  have m2 := b0.cell 2
  have m3 := b0.cell 3
  have m4 := b0.cell 4
  have l0 := b0.lt
  go_enter Tryz.func15, Tryz.ntmps15
  go_wp2_with fail
  go_step3
  go_upto_region 2 with (go_at_call 32; refine (HF.out _ g0).mono ?_; rintro e w1 ⟨hG1, ⟨hn, hne, rfl⟩ | ⟨k, J, m, P, pa, pc, qa, qc, hk, rfl, hF1⟩⟩)
  · have HZ := Lib.hid (HP1.out (by rw [HCC.out]; exact hn) w1 (g0.t hG1))
    have hneb : ¬ FE = 0 := hne
    clear HP1 HP2 HP3 HF hn m0 m1 m2 m3 m4 l0 hne HEN HGU
    go_wp2_with fail
    first | exact HZ.out | (go_ret; exact HZ.out) | (rw [Exit.noGoto_ret]; go_ret; exact HZ.out) | (rw [Exit.noGoto_ret]; exact HZ.out)
  · have hg1 := g0.t hG1
    rw [← HCC.out] at hk hF1
    have hen := HEN.out k hk
    have HF1 := Lib.hid hF1
    have HZ2 := Lib.hid (HP2.out k hk)
    have HZ3 := Lib.hid (HP3.out k hk)
    have HGU2 := Lib.hid (HGU.out k hk)
    clear hk m0 m1 m2 m3 m4 l0 HF HP1 HP2 HP3 HEN HGU b0 g0 hG1
    have HBR := Lib.hid (broken_any w1 hF1.jt)
    have hnp := Nat.le_trans (brkI_len k.ps) hF1.jt.np
    rw [← brk_len] at hnp
    have HEB := Lib.hid hen.brk.ok
    clear hen hF1
    obtain ⟨VV, hVV⟩ : ∃ VV : Nat → List Int, VV = numL (aloB CC.duties k.ps) := ⟨_, rfl⟩
    have HVF : Hid (aloL CC.duties k.ps = VV 100) := by rw [hVV]; exact rfl
    have HVS : Hid (∀ q, VV (q + 1) = if aloB CC.duties k.ps q = true then VV q ++ [(q : Int)] else VV q) := by rw [hVV]; exact numL_succ _
    have HVL : Hid (∀ q, (VV q).length ≤ q) := by rw [hVV]; exact numL_len _
    have HV0 : Hid (VV 0 = []) := by rw [hVV]; exact rfl
    clear hVV
    unfold BrkPost at HBR
    obtain ⟨nb, hnb⟩ : ∃ nb, nb = (brk k.ps).length := ⟨_, rfl⟩
    rw [← hnb] at HBR hnp
    have HNB := Lib.hid hnb
    clear hnb
    go_upto_region 5 with (go_at_call 34; refine HBR.out.mono ?_; rintro e w2 ⟨ba, bc, P', rfl, hq, hG2⟩)
    have hq2 := Lib.hid hq
    clear hq HBR
    by_cases h0 : nb = 0
    · have HZ := Lib.hid (HZ2.out (List.length_eq_zero_iff.1 (by rw [← HNB.out]; exact h0)) w2 (hg1.t hG2))
      have h0b : ((nb : Int) == 0) = true := by simpa using h0
      have h0i : (nb : Int) = 0 := by omega
      clear HZ2 HZ3 HGU2 HVF HVS HVL HV0 h0
      go_wp2_with fail
      first | exact HZ.out | (go_ret; exact HZ.out) | (rw [Exit.noGoto_ret]; go_ret; exact HZ.out) | (rw [Exit.noGoto_ret]; exact HZ.out)
    · have HZ := Lib.hid (HZ3.out (fun e => h0 (by rw [HNB.out, e]; rfl)))
      have h0b : ((nb : Int) == 0) = false := by simpa using h0
      have h0i : ¬ (nb : Int) = 0 := by omega
      rw [HVF.out] at HZ
      have HG2 := Lib.hid (hg1.t hG2)
      have HF2 := Lib.hid (HF1.out.keep hG2)
      have HSZ2 := Lib.hid (Nat.le_trans hg1.size hG2.size)
      clear HZ2 HZ3 HVF HF1 hg1 hG2 h0
      obtain ⟨i0, hi0, hz0, hz1, hz2⟩ := info_parts info3
      go_wp2_with fail
      go_step3
      go_wp2_with fail
      go_loopw [7, 24] (fun v i wr => ∃ q : Nat, q ≤ 100 ∧ i = .int .i64 q ∧ wr.ownsRow w2.heap.size 3 1 v (VV q).length (iv (VV q)) ∧ Hid (G w2 wr)) (fun _ i _ => 100 - (intOf i).toNat)
      case atStart => exact ⟨0, Nat.zero_le _, rfl, by rw [HV0.out]; exact World.ownsRow_nil _ _ _ _, G.rf _⟩
      case round =>
        clear h0b h0i
        obtain ⟨q, hq, rfl, ho, HG⟩ := hrel
        obtain ⟨wo, rfl⟩ : ∃ wo, wo = wr := ⟨_, rfl⟩
        have HO := Lib.hid ho
        clear ho
        by_cases hlt : q < 100
        · have hqi : (q : Int) < 100 := by omega
          have HSN := Lib.hid (HVS.out q)
          have hTl := HVL.out q
          clear HZ
          go_wp2_with fail
          go_loopw [29] (fun i wr => ∃ t : Nat, t ≤ nb ∧ i = .int .i64 t ∧ Hid (∀ j, j < t → guaB CC.duties k.ps ((brk k.ps).getD j default) (q : Int) = true) ∧ Hid (G wo wr)) (fun i _ => nb - (intOf i).toNat)
          case atStart => exact ⟨0, Nat.zero_le _, rfl, fun j hj => by omega, G.rf _⟩
          case round =>
            obtain ⟨t, ht, rfl, HALL, HGI⟩ := hrel
            obtain ⟨wi, rfl⟩ : ∃ wi, wi = wr := ⟨_, rfl⟩
            by_cases hlt2 : t < nb
            · have hti : (t : Int) < nb := by omega
              have hgi := HG.out.t HGI.out
              have hqi3 := hq2.out.keep hgi
              rcases hqi3.row with h9 | ⟨g, off, rfl, hg, hcell⟩
              · exact absurd HNB.out (by omega)
              have q0 := hcell t (by have := HNB.out; omega)
              have HGC := Lib.hid (HGU2.out wi (HG2.out.t hgi) J m P pa pc qa qc (HF2.out.keep hgi) ((brk k.ps).getD t default) (P' t) (q : Int) (hqi3.blk t (by have := HNB.out; omega)) (HEB.out t (by have := HNB.out; omega)))
              have HSK : Hid (guaB CC.duties k.ps ((brk k.ps).getD t default) (q : Int) = false → VV (q + 1) = VV q) := fun hf => by
                rw [HSN.out, if_neg]
                intro ha
                have := allU_iff.1 ha t (by have := HNB.out; omega)
                rw [hf] at this
                cases this
              obtain ⟨RR, hRR⟩ : ∃ RR, RR = guaB CC.duties k.ps ((brk k.ps).getD t default) (q : Int) := ⟨_, rfl⟩
              rw [← hRR] at HGC HSK
              have HRR := Lib.hid hRR
              generalize P' t = PT at *
              have lg := hg
              clear hcell hqi3 hRR hg
              cases RR
              · have HV2 := Lib.hid (HSK.out rfl)
                clear HSK HALL HRR HSN
                go_wp2_with (go_at_call 46; refine HGC.out.mono ?_; rintro e w3 ⟨rfl, hG3⟩)
                go_roundw
                case rel => exact ⟨q + 1, by omega, by go_num, by rw [HV2.out]; exact own_G (own_G HO.out HGI.out) hG3, hgi.t hG3⟩
                case measure => simp [intOf] <;> omega
              · have HAL2 : Hid (∀ j, j < t + 1 → guaB CC.duties k.ps ((brk k.ps).getD j default) (q : Int) = true) := fun j hj => by
                  rcases Nat.lt_or_ge j t with h | h
                  · exact HALL.out j h
                  · obtain rfl : j = t := by omega
                    exact HRR.out.symm
                clear HSK HALL HRR
                go_wp2_with (go_at_call 46; refine HGC.out.mono ?_; rintro e w3 ⟨rfl, hG3⟩)
                go_roundw
                case rel => exact ⟨t + 1, by omega, by go_num, HAL2.out, HGI.out.t hG3⟩
                case measure => simp [intOf] <;> omega
            · obtain rfl : t = nb := by omega
              have hti : ¬ ((t : Nat) : Int) < t := by omega
              have HV2 : Hid (VV (q + 1) = VV q ++ [(q : Int)]) := by
                show _ = _
                rw [HSN.out, if_pos]
                exact allU_iff.2 fun i hi => HALL.out i (by rw [HNB.out]; exact hi)
              have HO2 := Lib.hid (own_G HO.out HGI.out)
              have hgi := HG.out.t HGI.out
              obtain ⟨TT, hTT⟩ : ∃ TT, TT = VV q := ⟨_, rfl⟩
              rw [← hTT] at HO2 HV2 hTl
              clear hTT HSN HALL HO HG HGI
              go_wp2_with (at_builtin; refine wpList_append_own _ rfl _ _ 26 rfl w2.heap.size 3 i0 (.int .i64 0) 1 8 Tryz.underlying26 hi0 hz0 hz1 hz2 rfl (by decide) _ TT.length (iv TT) rfl ?hown ⟨_, 0, none⟩ 1 1 [.int .i64 (q : Nat)] rfl rfl (cell_one_new _ _ _) (by simp [Value.oneCell']) (by unfold maxLen; omega) (by omega) ?hbase ?hrest)
              case hown => exact own_G HO2.out ((G.rf _).a _)
              case hbase => exact Nat.le_trans hgi.size (Nat.le_succ _)
              case hrest =>
                intro v9 w9 hown9 hg9 _
                have gz : G w2 w9 := grow_own (hgi.a _) (own_G HO2.out ((G.rf _).a _)) (Nat.le_refl _) hg9
                have HN := Lib.hid hown9
                clear hown9 hg9 hgi
                go_wp2
                go_roundw
                case rel => exact ⟨q + 1, by omega, by go_num, by rw [HV2.out, iv_snoc, List.length_append]; exact HN.out, gz⟩
                case measure => simp [intOf] <;> omega
        · obtain rfl : q = 100 := by omega
          have hki : ¬ ((100 : Nat) : Int) < 100 := by omega
          have HQ := Lib.hid (fun (v : Value) (ho : wo.ownsRow w2.heap.size 3 1 v (VV 100).length (iv (VV 100))) => HZ.out wo v (own_weaken ho HSZ2.out) (HG2.out.t HG.out))
          have HQ2 := Lib.hid (HQ.out _ HO.out)
          clear HQ HZ HO
          go_wp2_with fail
          first | exact HQ2.out | (go_ret; exact HQ2.out) | (rw [Exit.noGoto_ret]; go_ret; exact HQ2.out) | (rw [Exit.noGoto_ret]; exact HQ2.out)
end Go.Proofs.YtabnpimidhlbiaaGreat

set_option linter.unusedSimpArgs false
set_option linter.unusedVariables false
namespace Go.Proofs.YtabnpimidhlbiaaGreat
open Go.RowKit Go.Shelf
attribute [local go_sem] Oper.semAt_some
/-- the acts of the chapter's example -/
def exA : List Ac := [⟨1, 5, 1, 0, 0, 7, 8, 0⟩, ⟨2, 6, 1, 0, 1, 7, 9, 0⟩, ⟨3, 7, 1, 1, 2, 8, 9, 0⟩, ⟨4, 10, 3, 0, 0, 0, 0, 501⟩, ⟨5, 10, 3, 1, 0, 0, 0, 502⟩, ⟨6, 40, 4, 0, 0, 0, 0, 501⟩, ⟨7, 60, 4, 0, 0, 0, 0, 0⟩, ⟨8, 80, 5, 0, 0, 0, 0, 0⟩, ⟨9, 80, 5, 1, 0, 0, 0, 502⟩, ⟨10, 81, 2, 0, 0, 0, 0, 0⟩]
def exD : List Du := [⟨3, 0, 0, 30⟩, ⟨4, 0, 31, 50⟩, ⟨4, 1, 0, 99⟩]
/-- the chapter's convoy -/
def exC (aa : Option Addr) (ac : Nat) (da : Option Addr) (dc : Nat) : Cv := ⟨2, 3, aa, ac, exA, da, dc, exD, 100⟩
theorem exA_clash : clashB exA = false := by decide +kernel
theorem exA_hea : heaL exA = exA := by decide +kernel
theorem exA_hrd : hrd exA = exA := by rw [← heaL_eq ((clashB_iff _).1 exA_clash), exA_hea]
theorem exC_valid (aa : Option Addr) (ac : Nat) (da : Option Addr) (dc : Nat) : vcB (exC aa ac da dc) = true := by
  have e : vcB (exC aa ac da dc) = vcB (exC none 0 none 0) := rfl
  rw [e]
  decide +kernel
def exPs : List Pe := peds 100 exA
theorem exJ (aa : Option Addr) (ac : Nat) (da : Option Addr) (dc : Nat) : ∃ k, folJ (exC aa ac da dc) = some k ∧ k.past = exA ∧ k.ps = exPs := by
  have h1 : (folJ (exC aa ac da dc)).isSome = true := by
    rw [folJ_runR (exC_valid aa ac da dc) exA_clash]
    show (runR Rs.zero (heaL exA)).isSome = true
    decide +kernel
  cases hf : folJ (exC aa ac da dc) with
  | none => rw [hf] at h1; cases h1
  | some k =>
    obtain ⟨_, _, hr⟩ := folJ_some hf
    have hr2 : run 100 Jn.zero exA = some k := by
      have e : run (exC aa ac da dc).en Jn.zero (hrd exA) = some k := hr
      rw [exA_hrd] at e
      exact e
    exact ⟨k, rfl, by rw [run_past _ _ _ _ hr2]; rfl, run_ps hr2⟩
theorem ex_opn : opnL exPs 0 = [(40, 59)] := by decide +kernel
theorem ex_sure : struckL exA exPs (brk exPs) 3 = [0, 1] := by decide +kernel
theorem ex_may : struckL exA exPs exPs 3 = [0, 1] := by decide +kernel
theorem ex_mark : mrkL [7, 8, 9] exA 3 = [0, 1, 2] := by decide +kernel
theorem ex_mrkD : mrkD [7, 8, 9] = true := by decide +kernel
theorem ex_alone : aloL exD exPs = [4] := by decide +kernel
theorem ex_brk : brk exPs ≠ [] := by
  intro h
  have : (brk exPs).length = 0 := by rw [h]; rfl
  revert this
  decide +kernel
end Go.Proofs.YtabnpimidhlbiaaGreat

set_option linter.unusedSimpArgs false
set_option linter.unusedVariables false
namespace Go.Proofs.YtabnpimidhlbiaaGreat
open Go.RowKit Go.Shelf
attribute [local go_sem] Oper.semAt_some
set_option maxRecDepth 100000 in
set_option maxHeartbeats 4000000 in
/-- equal numbers are the same -/
theorem sameI_any (l : List Int) (a b : Option Addr) (c d : Nat) (w : World) (h1 : IntsAt w a l) (h2 : IntsAt w b l) (hl : l.length ≤ 1000) : Calls Tryz.prog 17 #[.slice a l.length c, .slice b l.length d] w fun e w' => e = .returned (.bool true) ∧ G w w' := by
  go_enter Tryz.func17, Tryz.ntmps17
  go_wp2_with fail
  go_loopw [5] (fun vi wr => ∃ k : Nat, k ≤ l.length ∧ vi = .int .i64 k ∧ Hid (G w wr)) (fun vi _ => l.length - (intOf vi).toNat)
  case atStart => exact ⟨0, Nat.zero_le _, rfl, G.rf _⟩
  case round =>
    obtain ⟨k, hk, rfl, HG⟩ := hrel
    obtain ⟨wo, rfl⟩ : ∃ wo, wo = wr := ⟨_, rfl⟩
    by_cases hlt : k < l.length
    · have hki : (k : Int) < l.length := by omega
      rcases h1.below HG.out with rfl | ⟨g, off, rfl, lg, hcell⟩
      · simp at hlt
      rcases h2.below HG.out with rfl | ⟨g', off', rfl, lg', hcell'⟩
      · simp at hlt
      have hc1 := hcell k hlt
      have hc2 := hcell' k hlt
      obtain ⟨x, hx⟩ : ∃ x, x = l.getD k 0 := ⟨_, rfl⟩
      rw [← hx] at hc1 hc2
      clear hcell hcell' hx
      have u0 : ∀ x' : GW wo, x'.w.cell? ⟨g, off + k, none⟩ = some (.int .i64 x) := GW.cell hc1 lg
      have v0 : ∀ x' : GW wo, x'.w.cell? ⟨g', off' + k, none⟩ = some (.int .i64 x) := GW.cell hc2 lg'
      clear hc1 hc2
      go_upto_region 6 with fail
      refine wp_region_quiet_G (by kernel_rfl) (by kernel_rfl) ?_
      iterate 9 (quiet_step (fail))
      refine wpQuiet_nil ?_
      intro _ hw'
      obtain ⟨yw, rfl⟩ := hw'
      have gy := HG.out.t yw.g
      clear u0 v0 lg lg' HG
      go_wp2_with fail
      go_roundw
      case rel => exact ⟨k + 1, by omega, by go_num, gy⟩
      case measure => simp [intOf] <;> omega
    · obtain rfl : k = l.length := by omega
      have hki : ¬ ((l.length : Nat) : Int) < l.length := by omega
      have hg := HG.out
      go_wp2_with fail
      first | exact ⟨rfl, hg⟩ | (go_ret; exact ⟨rfl, hg⟩)
/-- spans as they lie -/
def SpAt (w : World) (a : Option Addr) (l : List (Int × Int)) : Prop := l.length = 0 ∨ ∃ g off, a = some ⟨g, off, none⟩ ∧ g < w.heap.size ∧ ∀ k, k < l.length → w.cell? ⟨g, off + k * 2, none⟩ = some (.int .i64 (l.getD k (0, 0)).1) ∧ w.cell? ⟨g, off + k * 2 + 1, none⟩ = some (.int .i64 (l.getD k (0, 0)).2)
theorem SpAt.below {w W : World} {a : Option Addr} {l : List (Int × Int)} (h : SpAt w a l) (hG : G w W) : SpAt W a l := by
  rcases h with h | ⟨g, off, h1, h2, h3⟩
  · exact .inl h
  · exact .inr ⟨g, off, h1, Nat.lt_of_lt_of_le h2 hG.size, fun k hk => ⟨((bcellB hG).1 g _ h2).trans (h3 k hk).1, ((bcellB hG).1 g _ h2).trans (h3 k hk).2⟩⟩
theorem spV_get : ∀ (l : List (Int × Int)) (k : Nat), k < l.length → (spV l)[k * 2]? = some (.int .i64 (l.getD k (0, 0)).1) ∧ (spV l)[k * 2 + 1]? = some (.int .i64 (l.getD k (0, 0)).2)
  | [], k, h => absurd h (by simp)
  | x :: l, 0, h => by simp [spV, spE]
  | x :: l, k + 1, h => by
    have ih := spV_get l k (by simpa using h)
    have e : spV (x :: l) = spE x ++ spV l := rfl
    rw [e, List.getElem?_append_right (by simp [spE]; omega), List.getElem?_append_right (by simp [spE]; omega)]
    have e1 : (k + 1) * 2 - (spE x).length = k * 2 := by simp [spE]; omega
    have e2 : (k + 1) * 2 + 1 - (spE x).length = k * 2 + 1 := by simp [spE]; omega
    rw [e1, e2, ih.1, ih.2]
    simp
theorem own_sp {W : World} {B : Nat} {v : Value} {l : List (Int × Int)} (h : W.ownsRow B 61 2 v l.length (spV l)) : ∃ a c, v = .slice a l.length c ∧ SpAt W a l := by
  by_cases h0 : 0 < l.length
  · obtain ⟨g, cap, cur, rfl, hb, hg, ht⟩ := own_some h h0
    refine ⟨_, _, rfl, .inr ⟨g, 0, rfl, hg, fun k hk => ?_⟩⟩
    obtain ⟨e1, e2⟩ := spV_get l k hk
    exact ⟨by rw [Nat.zero_add]; exact take_cell hb ht (by omega) e1, by rw [Nat.zero_add]; exact take_cell hb ht (by omega) e2⟩
  · obtain ⟨a, c, rfl⟩ := own_slice h
    exact ⟨_, _, rfl, .inl (by omega)⟩
theorem neq61 (a b : Int) (w : World) : (binOp .neq 61 (.agg #[.int .i64 a, .int .i64 b]) (.agg #[.int .i64 a, .int .i64 b])).run Tryz.prog w = .ok (.bool false) w := by
  rw [run_neq_struct, show (10000 : Nat) = 9998 + 1 + 1 from rfl, eqSp]
  simp
set_option maxRecDepth 100000 in
set_option maxHeartbeats 4000000 in
/-- equal spans are the same -/
theorem sameS_any (l : List (Int × Int)) (a b : Option Addr) (c d : Nat) (w : World) (h1 : SpAt w a l) (h2 : SpAt w b l) (hl : l.length ≤ 1000) : Calls Tryz.prog 28 #[.slice a l.length c, .slice b l.length d] w fun e w' => e = .returned (.bool true) ∧ G w w' := by
  go_enter Tryz.func28, Tryz.ntmps28
  go_wp2_with fail
  go_loopw [5] (fun vi wr => ∃ k : Nat, k ≤ l.length ∧ vi = .int .i64 k ∧ Hid (G w wr)) (fun vi _ => l.length - (intOf vi).toNat)
  case atStart => exact ⟨0, Nat.zero_le _, rfl, G.rf _⟩
  case round =>
    obtain ⟨k, hk, rfl, HG⟩ := hrel
    obtain ⟨wo, rfl⟩ : ∃ wo, wo = wr := ⟨_, rfl⟩
    by_cases hlt : k < l.length
    · have hki : (k : Int) < l.length := by omega
      rcases h1.below HG.out with h9 | ⟨g, off, rfl, lg, hcell⟩
      · omega
      rcases h2.below HG.out with h9 | ⟨g', off', rfl, lg', hcell'⟩
      · omega
      have hc1 := hcell k hlt
      have hc2 := hcell' k hlt
      obtain ⟨x, hx⟩ : ∃ x, x = l.getD k (0, 0) := ⟨_, rfl⟩
      rw [← hx] at hc1 hc2
      obtain ⟨x1, x2⟩ := x
      clear hcell hcell' hx
      have u0 : ∀ x' : GW wo, x'.w.cell? ⟨g, off + k * 2, none⟩ = some (.int .i64 x1) := GW.cell hc1.1 lg
      have u1 : ∀ x' : GW wo, x'.w.cell? ⟨g, off + k * 2 + 1, none⟩ = some (.int .i64 x2) := GW.cell hc1.2 lg
      have v0 : ∀ x' : GW wo, x'.w.cell? ⟨g', off' + k * 2, none⟩ = some (.int .i64 x1) := GW.cell hc2.1 lg'
      have v1 : ∀ x' : GW wo, x'.w.cell? ⟨g', off' + k * 2 + 1, none⟩ = some (.int .i64 x2) := GW.cell hc2.2 lg'
      have hnq := fun W => neq61 x1 x2 W
      clear hc1 hc2
      go_upto_region 6 with fail
      refine wp_region_quiet_G (by kernel_rfl) (by kernel_rfl) ?_
      iterate 9 (quiet_step (fail))
      refine wpQuiet_nil ?_
      intro _ hw'
      obtain ⟨yw, rfl⟩ := hw'
      have gy := HG.out.t yw.g
      clear u0 v0 u1 v1 hnq lg lg' HG
      go_wp2_with fail
      go_roundw
      case rel => exact ⟨k + 1, by omega, by go_num, gy⟩
      case measure => simp [intOf] <;> omega
    · obtain rfl : k = l.length := by omega
      have hki : ¬ ((l.length : Nat) : Int) < l.length := by omega
      have hg := HG.out
      go_wp2_with fail
      first | exact ⟨rfl, hg⟩ | (go_ret; exact ⟨rfl, hg⟩)
end Go.Proofs.YtabnpimidhlbiaaGreat

