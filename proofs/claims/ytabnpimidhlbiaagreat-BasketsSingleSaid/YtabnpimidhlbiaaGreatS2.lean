import Derived.Below
import Derived.BigQuiet
import Derived.Deep.AppendLies
import Derived.Deep.Draws
import Derived.Deep.QuietTactic
import Derived.Deep.RegionHeld
import Derived.Deep.Slices
import Derived.Ground.Names2Prog
import Derived.Ground.SlsfProg
import Derived.Ground.SlsoProg
import Derived.IntWalk
import Derived.Laws.AppendOwn
import Derived.Laws.AppendOwnNone
import Derived.Laws.OwnMore
import Derived.Laws.Rows
import Derived.Laws.StructEq
import Derived.Lib.Hide
import Derived.Lib.SlKeysI
import Derived.Lib.SliceRun
import Derived.Lib.SmallJoins
import Derived.LoopIn
import Derived.LoopNIn
import Derived.Maps.OwnSet
import Derived.Maps.Views
import Derived.OpenShut
import Derived.OrdersHeld
import Derived.OrdersIn
import Derived.Outline
import Derived.OwnWalkIn
import Derived.ProofKit
import Derived.RangeFuncBound
import Derived.RangeFuncCalls
import Derived.RangeFuncLeaves
import Derived.RangeFuncNested
import Derived.Shelf.Abstract
import Derived.Shelf.GgSortFunc.InsertionK
import Derived.Shelf.RegionOpen
import Derived.Shelf.SlSortCmp.NoneTotal
import Derived.Shelf.SlSortCmp.WholeK
import Derived.Shelf.SlSorted.Search
import Derived.Shelf.Slices.Cells
import Derived.Shelf.Slices.CompactI
import Derived.Shelf.Slices.In.SortNone
import Derived.Shelf.Slices.SearchI
import Derived.Shelf.Small.Bits
import Derived.Shelf.Sort.Plain
import Derived.Shelf.Strconv.Itoa0
import Derived.Sort.Grow
import Derived.TacticsIn
import Derived.TacticsInMore
import Derived.Test.YtabnpimidhlbiaaGreatProg
import Derived.WalkKit
import Derived.WalkSpells
import Derived.Test.YtabnpimidhlbiaaGreatS1
set_option linter.unusedSimpArgs false
set_option linter.unusedVariables false
namespace Go.Proofs.YtabnpimidhlbiaaGreat
open Go.RowKit Go.Shelf
attribute [local go_sem] Oper.semAt_some
/-- a journey as it lies: its past acts and its periods -/
structure JAt (W : World) (J : Nat) (past : List Ac) (ps : List Pe) (P : Nat → Nat) (pa : Option Addr) (pc : Nat) (qa : Option Addr) (qc : Nat) : Prop where
  c5 : W.cell? ⟨J, 5, none⟩ = some (.slice pa past.length pc)
  c6 : W.cell? ⟨J, 6, none⟩ = some (.slice qa ps.length qc)
  lt : J < W.heap.size
  ra : RowE Ac.v 8 W pa past
  rp : PsAt W qa ps P
  na : past.length ≤ 1000
  np : ps.length ≤ 1000
theorem JAt.keep {W W' : World} {J : Nat} {past : List Ac} {ps : List Pe} {P : Nat → Nat} {pa : Option Addr} {pc : Nat} {qa : Option Addr} {qc : Nat} (h : JAt W J past ps P pa pc qa qc) (hG : G W W') : JAt W' J past ps P pa pc qa qc :=
  ⟨((bcellB hG).1 J _ h.lt).trans h.c5, ((bcellB hG).1 J _ h.lt).trans h.c6, Nat.lt_of_lt_of_le h.lt hG.size, h.ra.below hG, h.rp.keep hG, h.na, h.np⟩
/-- could a bird be struck by a period? -/
def hitB (past : List Ac) (ps : List Pe) (p : Pe) (b : Int) : Bool := decide (openL ps p ≤ p.en - 1) && (whr past (openL ps p) b == p.bk)
set_option maxRecDepth 100000 in
set_option maxHeartbeats 8000000 in
theorem hit_any {J : Nat} {past : List Ac} {ps : List Pe} {P : Nat → Nat} {pa : Option Addr} {pc : Nat} {qa : Option Addr} {qc : Nat} (p : Pe) (PK JB BB : Nat) (b : Int) (w : World) (h : JAt w J past ps P pa pc qa qc) (hP : Blk w PK 100 p.v) (he : IntKind.i64.wrap (p.en - 1) = p.en - 1) (hJB : Blk w JB 71 #[.pointer (some ⟨J, 0, none⟩)]) (hBB : Blk w BB 3 #[.int .i64 b]) :
    Calls Tryz.prog 67 #[.pointer (some ⟨PK, 0, none⟩), .pointer (some ⟨JB, 0, none⟩), .pointer (some ⟨BB, 0, none⟩)] w fun e w' => e = .returned (.bool (hitB past ps p b)) ∧ G w w' := by
  have HO := Lib.hid (fun (W : World) (hW : G w W) => openings_any ps qa qc J P p PK W (h.keep hW).c6 (h.keep hW).lt (h.keep hW).rp h.np (hP.keep hW) he)
  have HW := Lib.hid (fun (m : Int) (W : World) (hW : G w W) => where_any past pa pc J m b W (h.keep hW).c5 (h.keep hW).lt (h.keep hW).ra h.na)
  clear h he
  unfold hitB
  generalize openL ps p = L at *
  obtain ⟨xbk, xsl, xfr, xwh, xen, xbr⟩ := p
  unfold Pe.v at hP
  dsimp only at *
  generalize xen - 1 = E at *
  have HW := Lib.hid (HW.out L)
  generalize whr past L b = Y at *
  have m0 := hJB.cell 0
  have lj := hJB.lt
  go_enter Tryz.func67, Tryz.ntmps67
  go_upto_region 2 with (go_at_call 57; refine (HO.out _ (G.rf _)).mono ?_; rintro e w1 ⟨rfl, hG1⟩)
  clear HO m0 lj
  have bC : Blk (w1.alloc (.cells #[.int .i64 L, .int .i64 E] 61)) w1.heap.size 61 #[.int .i64 L, .int .i64 E] := Blk.new _ _ _
  have g2 : G w (w1.alloc (.cells #[.int .i64 L, .int .i64 E] 61)) := hG1.a _
  have bJ := hJB.keep g2
  have bB := hBB.keep g2
  have bP := hP.keep g2
  try change Code.wp _ _ _ _ (w1.alloc (.cells #[.int .i64 L, .int .i64 E] 61))
  obtain ⟨C, hC⟩ : ∃ C, C = w1.heap.size := ⟨_, rfl⟩
  rw [← hC] at bC ⊢
  clear hC hJB hBB hP
  generalize w1.alloc (.cells #[.int .i64 L, .int .i64 E] 61) = W2 at *
  have m0 := bC.gw 0 rfl
  have m1 := bC.gw 1 rfl
  have m2 := bJ.gw 0 rfl
  have m3 := bB.gw 0 rfl
  have m4 := bP.gw 0 rfl
  have l0 := bC.lt
  have l1 := bJ.lt
  have l2 := bB.lt
  have l3 := bP.lt
  by_cases hle : L ≤ E
  · refine wp_region_quiet_G (by kernel_rfl) (by kernel_rfl) ?_
    iterate 10 (quiet_step (fail))
    quiet_step (first | (go_at_call 60; exact Calls.gq (HW.out _ (g2.t (GW.g _)))))
    iterate 7 (quiet_step (fail))
    refine wpQuiet_nil ?_
    intro _ hw'
    obtain ⟨y, rfl⟩ := hw'
    clear m0 m1 m2 m3 m4
    go_wp2_with fail
    go_ret
    exact ⟨by first | rfl | (simp [hle]; done), g2.t y.g⟩
  · have hl2 : decide (L ≤ E) = false := by simpa using hle
    have HLE := Lib.hid hle
    clear hle HW m0 m1 m2 m3 m4 l0 l1 l2 l3 bJ bB bP
    refine wp_region_Y (S := fun W' => Blk W' C 61 #[.int .i64 L, .int .i64 E]) 17 18 rfl (by kernel_rfl) (bC.drewN 1) (fun hS => ?_)
    have gD : G w W2.drew := g2.d
    clear g2 bC
    generalize W2.drew = WD at *
    have HL2 := Lib.hid hl2
    clear hl2
    refine wpAnyY_take (i := 0) (v := ?_) rfl (by kernel_rfl) (by kernel_rfl) (by kernel_rfl) (by kernel_rfl) (fun _ _ _ h => h) (Or.inl ⟨by kernel_rfl, ?_⟩) hS ?_
    rotate_left
    · intro w' hSw; go_simp; with_reducible rfl
    try simp only [Act.put, zzA, zzB, zzC, zzD, zzE, zzF]
    refine wpAnyY_take (i := 1) (v := ?_) rfl (by kernel_rfl) (by kernel_rfl) (by kernel_rfl) (by kernel_rfl) (fun _ _ _ h => h) (Or.inl ⟨by kernel_rfl, ?_⟩) hS ?_
    rotate_left
    · intro w' hSw; have s0 := hSw.cell 0; have s1 := hSw.cell 1; have sl := hSw.lt; go_simp; with_reducible rfl
    try simp only [Act.put, zzA, zzB, zzC, zzD, zzE, zzF]
    refine wpAnyY_take (i := 2) (v := ?_) rfl (by kernel_rfl) (by kernel_rfl) (by kernel_rfl) (by kernel_rfl) (fun _ _ _ h => h) (Or.inl ⟨by kernel_rfl, ?_⟩) hS ?_
    rotate_left
    · intro w' hSw; go_simp; with_reducible rfl
    try simp only [Act.put, zzA, zzB, zzC, zzD, zzE, zzF]
    refine wpAnyY_take (i := 3) (v := ?_) rfl (by kernel_rfl) (by kernel_rfl) (by kernel_rfl) (by kernel_rfl) (fun _ _ _ h => h) (Or.inl ⟨by kernel_rfl, ?_⟩) hS ?_
    rotate_left
    · intro w' hSw; have s0 := hSw.cell 0; have s1 := hSw.cell 1; have sl := hSw.lt; go_simp; with_reducible rfl
    try simp only [Act.put, zzA, zzB, zzC, zzD, zzE, zzF]
    refine wpAnyY_take (i := 4) (v := ?_) rfl (by kernel_rfl) (by kernel_rfl) (by kernel_rfl) (by kernel_rfl) (fun _ _ _ h => h) (Or.inl ⟨by kernel_rfl, ?_⟩) hS ?_
    rotate_left
    · intro w' hSw; go_simp; with_reducible rfl
    try simp only [Act.put, zzA, zzB, zzC, zzD, zzE, zzF]
    rw [HL2.out]
    refine wpAnyY_take (i := 5) (v := ?_) rfl (by kernel_rfl) (by kernel_rfl) (by kernel_rfl) (by kernel_rfl) (fun _ _ _ h => h) (Or.inl ⟨by kernel_rfl, ?_⟩) hS ?_
    rotate_left
    · intro w' hSw; go_simp; with_reducible rfl
    try simp only [Act.put, zzA, zzB, zzC, zzD, zzE, zzF]
    refine wpAnyY_take (i := 6) (v := undef) rfl (by kernel_rfl) (by kernel_rfl) (by kernel_rfl) (by kernel_rfl) (fun _ _ _ h => h) (Or.inr ⟨by kernel_rfl, rfl⟩) hS ?_
    try simp only [Act.put, zzA, zzB, zzC, zzD, zzE, zzF]
    refine wpAnyY_take (i := 7) (v := undef) rfl (by kernel_rfl) (by kernel_rfl) (by kernel_rfl) (by kernel_rfl) (fun _ _ _ h => h) (Or.inr ⟨by kernel_rfl, rfl⟩) hS ?_
    try simp only [Act.put, zzA, zzB, zzC, zzD, zzE, zzF]
    refine wpAnyY_take (i := 8) (v := undef) rfl (by kernel_rfl) (by kernel_rfl) (by kernel_rfl) (by kernel_rfl) (fun _ _ _ h => h) (Or.inr ⟨by kernel_rfl, rfl⟩) hS ?_
    try simp only [Act.put, zzA, zzB, zzC, zzD, zzE, zzF]
    refine wpAnyY_take (i := 9) (v := undef) rfl (by kernel_rfl) (by kernel_rfl) (by kernel_rfl) (by kernel_rfl) (fun _ _ _ h => h) (Or.inr ⟨by kernel_rfl, rfl⟩) hS ?_
    try simp only [Act.put, zzA, zzB, zzC, zzD, zzE, zzF]
    refine wpAnyY_take (i := 10) (v := undef) rfl (by kernel_rfl) (by kernel_rfl) (by kernel_rfl) (by kernel_rfl) (fun _ _ _ h => h) (Or.inr ⟨by kernel_rfl, rfl⟩) hS ?_
    try simp only [Act.put, zzA, zzB, zzC, zzD, zzE, zzF]
    refine wpAnyY_take (i := 11) (v := undef) rfl (by kernel_rfl) (by kernel_rfl) (by kernel_rfl) (by kernel_rfl) (fun _ _ _ h => h) (Or.inr ⟨by kernel_rfl, rfl⟩) hS ?_
    try simp only [Act.put, zzA, zzB, zzC, zzD, zzE, zzF]
    refine wpAnyY_take (i := 12) (v := undef) rfl (by kernel_rfl) (by kernel_rfl) (by kernel_rfl) (by kernel_rfl) (fun _ _ _ h => h) (Or.inr ⟨by kernel_rfl, rfl⟩) hS ?_
    try simp only [Act.put, zzA, zzB, zzC, zzD, zzE, zzF]
    refine wpAnyY_take (i := 13) (v := undef) rfl (by kernel_rfl) (by kernel_rfl) (by kernel_rfl) (by kernel_rfl) (fun _ _ _ h => h) (Or.inr ⟨by kernel_rfl, rfl⟩) hS ?_
    try simp only [Act.put, zzA, zzB, zzC, zzD, zzE, zzF]
    refine wpAnyY_take (i := 14) (v := undef) rfl (by kernel_rfl) (by kernel_rfl) (by kernel_rfl) (by kernel_rfl) (fun _ _ _ h => h) (Or.inr ⟨by kernel_rfl, rfl⟩) hS ?_
    try simp only [Act.put, zzA, zzB, zzC, zzD, zzE, zzF]
    refine wpAnyY_take (i := 15) (v := undef) rfl (by kernel_rfl) (by kernel_rfl) (by kernel_rfl) (by kernel_rfl) (fun _ _ _ h => h) (Or.inr ⟨by kernel_rfl, rfl⟩) hS ?_
    try simp only [Act.put, zzA, zzB, zzC, zzD, zzE, zzF]
    refine wpAnyY_take (i := 16) (v := ?_) rfl (by kernel_rfl) (by kernel_rfl) (by kernel_rfl) (by kernel_rfl) (fun _ _ _ h => h) (Or.inl ⟨by kernel_rfl, ?_⟩) hS ?_
    rotate_left
    · intro w' hSw; go_simp; with_reducible rfl
    try simp only [Act.put, zzA, zzB, zzC, zzD, zzE, zzF]
    refine wpAnyY_oneW (i := 17) (by kernel_rfl) rfl (by kernel_rfl) (by kernel_rfl) (fun K17 hK17 => ?_)
    go_simp
    refine hK17.out _ _ ?_
    clear hK17
    try simp only [Act.put, zzA, zzB, zzC, zzD, zzE, zzF]
    refine wpAnyY_done (by kernel_rfl) ?_ _
    go_wp2_with fail
    go_ret
    exact ⟨by rw [HL2.out]; rfl, gD⟩
end Go.Proofs.YtabnpimidhlbiaaGreat

set_option linter.unusedSimpArgs false
set_option linter.unusedVariables false
namespace Go.Proofs.YtabnpimidhlbiaaGreat
open Go.RowKit Go.Shelf Go.Maps
attribute [local go_sem] Oper.semAt_some
theorem law3 : Keyed Tryz.prog 3 := int_keyed Tryz.underlying3
theorem wfI {x : Int} (h : -1000000000000 ≤ x ∧ x ≤ 1000000000000) : (Lit.int .i64 x).wf = true := by
  have e1 : IntKind.i64.min = -9223372036854775808 := by decide
  have e2 : IntKind.i64.max = 9223372036854775807 := by decide
  simp [Lit.wf, e1, e2]
  omega
theorem own_Fr {R : Nat → Prop} {X Y : World} {b N z : Nat} {e : TypeId} {v : Value} {xs : List Value} (h : X.ownsRow b e z v N xs) (hF : Fr R X Y) (hne : ∀ g, v.ownBlock = some g → ¬ R g) : Y.ownsRow b e z v N xs := by
  obtain ⟨h1, h2⟩ := h
  refine ⟨h1, ?_⟩
  rcases h2 with ⟨rfl, h3⟩ | ⟨g, cap, cur, rfl, hb, hg, ht⟩
  · exact .inl ⟨rfl, h3⟩
  · exact .inr ⟨g, cap, cur, rfl, hb, (hF.block g (Array.getElem?_eq_some_iff.1 hg).1 (hne g rfl)).trans hg, ht⟩
/-- where a pointer points to -/
def ptV? (g : Option Nat) : Value := match g with | some g => .pointer (some ⟨g, 0, none⟩) | none => .pointer none
def ptD (g : Option Nat) : DataW Unit := match g with | some g => .lit (.int .i64 g) | none => .lit (.int .i64 (-1))
theorem ptD_inj {a b : Option Nat} (h : ptD a = ptD b) : a = b := by
  cases a <;> cases b <;> simp [ptD] at h
  · rfl
  · exact congrArg some (by omega)
theorem ptV_inj {a b : Option Nat} (h : ptV? a = ptV? b) : a = b := by
  cases a <;> cases b <;> simp [ptV?] at h
  · rfl
  · exact congrArg some h
noncomputable def ptR (v : Value) : Option (DataW Unit × List MemPlace) := open Classical in if h : ∃ x : Option Nat, v = ptV? x then some (ptD h.choose, []) else none
theorem ptR_mk (x : Option Nat) : ptR (ptV? x) = some (ptD x, []) := by
  have h : ∃ y : Option Nat, ptV? x = ptV? y := ⟨x, rfl⟩
  unfold ptR
  rw [dif_pos h, ← ptV_inj h.choose_spec]
theorem ptR_inv {v : Value} {y : DataW Unit × List MemPlace} (h : ptR v = some y) : ∃ x : Option Nat, v = ptV? x ∧ y = (ptD x, []) := by
  unfold ptR at h
  by_cases hx : ∃ x : Option Nat, v = ptV? x
  · rw [dif_pos hx] at h
    exact ⟨hx.choose, hx.choose_spec, by cases h; rfl⟩
  · rw [dif_neg hx] at h
    cases h
/-- block m is a map of pointers by number, of at most N entries -/
def SdM (W : World) (m N : Nat) (sd : Int → Option Nat) : Prop := ∃ D : DataW Unit, W.ownsMap Tryz.prog 3 ptR m N D ∧ (∀ x : Int, has D (.int .i64 x) = (sd x).isSome) ∧ ∀ x g, sd x = some g → ∀ z, D.atKey (.int .i64 x) z = ptD (some g)
theorem SdM.made (W : World) : SdM (W.alloc (.map #[] 0)) W.heap.size 0 (fun _ => none) := ⟨_, World.ownsMap_made _ _ _ _, fun x => rfl, fun x g h => by simp at h⟩
theorem SdM.keep {W W' : World} {m N : Nat} {sd : Int → Option Nat} (h : SdM W m N sd) (hG : W'.heap[m]? = W.heap[m]?) : SdM W' m N sd := by
  obtain ⟨D, h1, h2⟩ := h
  refine ⟨D, ?_, h2⟩
  obtain ⟨es, clock, hb, F, hs, e⟩ := h1
  exact ⟨es, clock, hG.trans hb, F, hs, e⟩
theorem SdM.lt {W : World} {m N : Nat} {sd : Int → Option Nat} (h : SdM W m N sd) : m < W.heap.size := by
  obtain ⟨D, h1, _⟩ := h
  exact h1.lt
theorem SdM.keepG {W W' : World} {m N : Nat} {sd : Int → Option Nat} (h : SdM W m N sd) (hG : G W W') : SdM W' m N sd := h.keep (hG.block m h.lt)
theorem SdM.keepF {R : Nat → Prop} {W W' : World} {m N : Nat} {sd : Int → Option Nat} (h : SdM W m N sd) (hG : Fr R W W') (hr : ¬ R m) : SdM W' m N sd := h.keep (hG.block m h.lt hr)
theorem SdM.mono {W : World} {m N N' : Nat} {sd : Int → Option Nat} (h : SdM W m N sd) (hn : N ≤ N') : SdM W m N' sd := by
  obtain ⟨D, h1, h2⟩ := h
  exact ⟨D, h1.mono hn, h2⟩
theorem SdM.ne {W : World} {m N : Nat} {sd : Int → Option Nat} (h : SdM W m N sd) {g : Nat} {t : TypeId} {cs : Array Value} (hb : Blk W g t cs) : g ≠ m := fun e => by
  subst e
  obtain ⟨D, h1, _⟩ := h
  obtain ⟨es, clock, hm, _⟩ := h1
  rw [show W.heap[g]? = _ from hb] at hm
  cases hm
theorem own_sdm {W : World} {m N : Nat} {sd : Int → Option Nat} {b s n : Nat} {e : TypeId} {v : Value} {xs : List Value} (hw : SdM W m N sd) (h : W.ownsRow b e s v n xs) : some m ≠ v.ownBlock := by
  rcases h.2 with ⟨rfl, _⟩ | ⟨g, cap, cur, rfl, _, hg, _⟩
  · exact fun e => by cases e
  · exact fun e => by
      have e2 : m = g := by injection e
      exact hw.ne (show Blk W g _ cur from hg) e2.symm
theorem SdM.grown {W W' : World} {m N : Nat} {sd : Int → Option Nat} {row : Option Nat} (h : SdM W m N sd) (hg : W.grownBy W' row) (hne : some m ≠ row) : SdM W' m N sd := by
  obtain ⟨D, h1, h2⟩ := h
  exact ⟨D, h1.kept hg hne, h2⟩
theorem SdM.store {W : World} {m N : Nat} {sd : Int → Option Nat} (h : SdM W m N sd) (x : Int) (g : Nat) (hx : -1000000000000 ≤ x ∧ x ≤ 1000000000000) (hn : N < maxLen) :
    ∃ W', (Instr.mapUpdate 77 (.map (some m)) (.int .i64 x) (.pointer (some ⟨g, 0, none⟩))).run Tryz.prog W = .ok () W' ∧ SdM W' m (N + 1) (fun b => if b = x then some g else sd b) ∧ W.grownBy W' (some m) := by
  obtain ⟨D, h1, h2, h3⟩ := h
  have hk := keyOf_int_mk (P := Tryz.prog) (k := 3) Tryz.underlying3 (wfI hx)
  obtain ⟨W', hrun, hown, hg⟩ := h1.update law3 Tryz.underlying77 hn hk (ptR_mk (some g))
  have hkl : WideAt.IsKeyLit (.int .i64 x) := law3.key hk
  have hinj : ∀ y : Int, y ≠ x → (Lit.int .i64 y) ≠ .int .i64 x := fun y hy e => hy (by injection e)
  refine ⟨W', hrun, ⟨_, hown, fun y => ?_, fun y q hq z => ?_⟩, hg⟩
  · by_cases e : y = x
    · subst e
      rw [has_put_same h1.isMap hkl]
      simp
    · rw [has_put_other (hinj y e), h2]
      simp only [if_neg e]
  · dsimp only at hq
    by_cases e : y = x
    · subst e
      rw [if_pos rfl] at hq
      cases hq
      exact atKey_put_same h1.isMap hkl _ _
    · rw [if_neg e] at hq
      rw [atKey_put_other (hinj y e)]
      exact h3 y q hq z
theorem SdM.look {W : World} {m N : Nat} {sd : Int → Option Nat} (h : SdM W m N sd) (x : Int) (hx : -1000000000000 ≤ x ∧ x ≤ 1000000000000) (hz : (zeroValue 91).run Tryz.prog W = .ok (.pointer none) W) :
    (Instr.lookup 77 (.map (some m)) (.int .i64 x) true).run Tryz.prog W = .ok (.tuple #[ptV? (sd x), .bool (sd x).isSome]) W := by
  obtain ⟨D, h1, h2, h3⟩ := h
  have hk := keyOf_int_mk (P := Tryz.prog) (k := 3) Tryz.underlying3 (wfI hx)
  obtain ⟨v, zp, hrun, hv⟩ := h1.look_ok law3 Tryz.underlying77 hz (ptR_mk none) hk
  obtain ⟨y, rfl, hy⟩ := ptR_inv hv
  have e : y = sd x := by
    refine ptD_inj ?_
    have h5 : D.atKey (.int .i64 x) (ptD none) = ptD y := congrArg Prod.fst hy
    rw [← h5]
    cases hf : sd x with
    | none =>
      have hno : has D (.int .i64 x) = false := by rw [h2, hf]; rfl
      exact atKey_of_not_has hno _
    | some q => exact h3 x q hf _
  rw [← e, hrun, h2, ← e]
theorem SdM.drop {W : World} {m N : Nat} {sd : Int → Option Nat} (h : SdM W m N sd) (x : Int) (hx : -1000000000000 ≤ x ∧ x ≤ 1000000000000) (ty : TypeId) :
    ∃ W', (Builtin.delete_ #[77, 3] ty #[.map (some m), .int .i64 x]).run Tryz.prog W = .ok (.tuple #[]) W' ∧ SdM W' m N (fun b => if b = x then none else sd b) ∧ Fr (fun i => i = m) W W' := by
  obtain ⟨D, h1, h2, h3⟩ := h
  have hk := keyOf_int_mk (P := Tryz.prog) (k := 3) Tryz.underlying3 (wfI hx)
  obtain ⟨W', hrun, hown, hg⟩ := h1.drop law3 Tryz.underlying77 hk ty
  have hkl : WideAt.IsKeyLit (.int .i64 x) := law3.key hk
  have hinj : ∀ y : Int, y ≠ x → (Lit.int .i64 y) ≠ .int .i64 x := fun y hy e => hy (by injection e)
  refine ⟨W', hrun, ⟨_, hown, fun y => ?_, fun y q hq z => ?_⟩, ?_⟩
  · by_cases e : y = x
    · subst e
      rw [has_del_same]
      simp
    · rw [has_del_other (hinj y e), h2]
      simp only [if_neg e]
  · dsimp only at hq
    by_cases e : y = x
    · rw [if_pos e] at hq
      cases hq
    · rw [if_neg e] at hq
      rw [atKey_del_other (hinj y e)]
      exact h3 y q hq z
  · obtain ⟨es, clock, es', clock', hb, rfl⟩ := hg
    have e9 : ∀ (Y : World), (Go.ChangeMaps.setBlock Y m (Obj.map es' clock')) = { Y with heap := Y.heap.setIfInBounds m (.map es' clock') } := fun Y => rfl
    refine ⟨rfl, rfl, rfl, by simp [e9], fun i hi hr => ?_⟩
    rw [e9]
    simp only
    rw [Array.getElem?_setIfInBounds_ne (fun e => hr e.symm)]
end Go.Proofs.YtabnpimidhlbiaaGreat

set_option linter.unusedSimpArgs false
set_option linter.unusedVariables false
namespace Go.Proofs.YtabnpimidhlbiaaGreat
open Go.RowKit Go.Shelf
attribute [local go_sem] Oper.semAt_some min2 max2
/-- what a look leaves of the map -/
def lookM (a : Ac) (bk : Int) (sd : Int → Option Nat) : Int → Option Nat := if a.kd = 5 then fun b => if b = bk then none else sd b else sd
/-- the post of a look -/
def LookPost (w : World) (PK m N : Nat) (sd : Int → Option Nat) (r : Bool) (v : Array Value) (e : Ending) (w' : World) : Prop := e = .returned (.bool r) ∧ Blk w' PK 100 v ∧ SdM w' m N sd ∧ Fr (fun i => i = PK ∨ i = m) w w'
set_option maxRecDepth 100000 in
set_option maxHeartbeats 8000000 in
theorem look_any (p : Pe) (a : Ac) (J m N PK : Nat) (sd : Int → Option Nat) (jc : Array Value) (w : World) (hJ : Blk w J 79 jc) (hj : jc[7]? = some (.map (some m))) (hP : Blk w PK 100 p.v) (hm : SdM w m N sd) (hb : -1000000000000 ≤ p.bk ∧ p.bk ≤ 1000000000000) :
    Calls Tryz.prog 98 #[.pointer (some ⟨J, 0, none⟩), .pointer (some ⟨PK, 0, none⟩), .agg a.v] w (LookPost w PK m N (lookM a p.bk sd) (lookP p a).2 (lookP p a).1.v) := by
  have hJP : J ≠ PK := fun e => by
    subst e
    have e := (show w.heap[J]? = _ from hJ).symm.trans (show w.heap[J]? = _ from hP)
    simp at e
  have hPm : PK ≠ m := hm.ne hP
  have hJm : J ≠ m := hm.ne hJ
  have HB := Lib.hid hb
  clear hb
  obtain ⟨xbk, xsl, xfr, xwh, xen, xbr⟩ := p
  obtain ⟨yid, ytm, ykd, ybk, ybd, ym1, ym2, ysl⟩ := a
  unfold Pe.v Ac.v at *
  dsimp only at *
  have g0 : G w (w.alloc (.cells #[.int .i64 yid, .int .i64 ytm, .int .i64 ykd, .int .i64 ybk, .int .i64 ybd, .int .i64 ym1, .int .i64 ym2, .int .i64 ysl] 54)) := (G.rf _).a _
  have bA : Blk (w.alloc (.cells #[.int .i64 yid, .int .i64 ytm, .int .i64 ykd, .int .i64 ybk, .int .i64 ybd, .int .i64 ym1, .int .i64 ym2, .int .i64 ysl] 54)) w.heap.size 54 #[.int .i64 yid, .int .i64 ytm, .int .i64 ykd, .int .i64 ybk, .int .i64 ybd, .int .i64 ym1, .int .i64 ym2, .int .i64 ysl] := Blk.new _ _ _
  have bP := hP.keep g0
  have bJ := hJ.keep g0
  have hM := hm.keepG g0
  have lP := hP.lt
  have lm := hm.lt
  obtain ⟨A, hA⟩ : ∃ A, A = w.heap.size := ⟨_, rfl⟩
  have hAP : A ≠ PK := by omega
  have hAm : A ≠ m := by omega
  have F0 : Fr (fun i => i = PK ∨ i = m) w (w.alloc (.cells #[.int .i64 yid, .int .i64 ytm, .int .i64 ykd, .int .i64 ybk, .int .i64 ybd, .int .i64 ym1, .int .i64 ym2, .int .i64 ysl] 54)) := g0.fr
  rw [← hA] at bA
  have HA := Lib.hid hA
  clear hA hP hJ hm g0 lP lm
  by_cases hk : ykd = 5
  · by_cases hs : ysl = xsl
    · rw [show lookP ⟨xbk, xsl, xfr, xwh, xen, xbr⟩ ⟨yid, ytm, ykd, ybk, ybd, ym1, ym2, ysl⟩ = (⟨xbk, xsl, xfr, ytm, (min xen ytm), xbr⟩, !xbr) from by unfold lookP; simp [hk, hs]]
      rw [show lookM ⟨yid, ytm, ykd, ybk, ybd, ym1, ym2, ysl⟩ xbk sd = (fun b => if b = xbk then none else sd b) from by unfold lookM; simp [hk]]
      dsimp only
      subst hk
      have hk5 : ((5 : Int) == 5) = true := rfl
      cases hs
      go_enter Tryz.func98, Tryz.ntmps98
      go_upto_region 2 with fail
      change Code.wp _ _ _ _ (w.alloc (.cells #[.int .i64 yid, .int .i64 ytm, .int .i64 5, .int .i64 ybk, .int .i64 ybd, .int .i64 ym1, .int .i64 ym2, .int .i64 xsl] 54))
      rw [← HA.out]
      generalize w.alloc (.cells #[.int .i64 yid, .int .i64 ytm, .int .i64 5, .int .i64 ybk, .int .i64 ybd, .int .i64 ym1, .int .i64 ym2, .int .i64 xsl] 54) = W1 at *
      refine wp_region_Y (S := fun W' => Blk W' PK 100 #[.int .i64 xbk, .int .i64 xsl, .int .i64 xfr, .int .i64 xwh, .int .i64 xen, .bool xbr] ∧ Blk W' A 54 #[.int .i64 yid, .int .i64 ytm, .int .i64 5, .int .i64 ybk, .int .i64 ybd, .int .i64 ym1, .int .i64 ym2, .int .i64 xsl]) 10 11 rfl (by kernel_rfl) ⟨bP.drewN 1, bA.drewN 1⟩ (fun hS => ?_)
      replace F0 := F0.d
      replace bP : Blk W1.drew PK 100 #[.int .i64 xbk, .int .i64 xsl, .int .i64 xfr, .int .i64 xwh, .int .i64 xen, .bool xbr] := bP.drewN 1
      replace bA : Blk W1.drew A 54 #[.int .i64 yid, .int .i64 ytm, .int .i64 5, .int .i64 ybk, .int .i64 ybd, .int .i64 ym1, .int .i64 ym2, .int .i64 xsl] := bA.drewN 1
      replace bJ : Blk W1.drew J 79 jc := bJ.drewN 1
      replace hM : SdM W1.drew m N sd := hM.keepG ((G.rf _).d)
      generalize W1.drew = WD at *
      refine wpAnyY_take (i := 0) (v := ?_) rfl (by kernel_rfl) (by kernel_rfl) (by kernel_rfl) (by kernel_rfl) (fun _ _ _ h => h) (Or.inl ⟨by kernel_rfl, ?_⟩) hS ?_
      rotate_left
      · intro w' hSw; go_simp; with_reducible rfl
      try simp only [Act.put, zzA, zzB, zzC, zzD, zzE, zzF]
      refine wpAnyY_take (i := 1) (v := ?_) rfl (by kernel_rfl) (by kernel_rfl) (by kernel_rfl) (by kernel_rfl) (fun _ _ _ h => h) (Or.inl ⟨by kernel_rfl, ?_⟩) hS ?_
      rotate_left
      · intro w' hSw; go_simp; with_reducible rfl
      try simp only [Act.put, zzA, zzB, zzC, zzD, zzE, zzF]
      refine wpAnyY_take (i := 2) (v := ?_) rfl (by kernel_rfl) (by kernel_rfl) (by kernel_rfl) (by kernel_rfl) (fun _ _ _ h => h) (Or.inl ⟨by kernel_rfl, ?_⟩) hS ?_
      rotate_left
      · intro w' hSw; go_simp; with_reducible rfl
      try simp only [Act.put, zzA, zzB, zzC, zzD, zzE, zzF]
      refine wpAnyY_take (i := 3) (v := ?_) rfl (by kernel_rfl) (by kernel_rfl) (by kernel_rfl) (by kernel_rfl) (fun _ _ _ h => h) (Or.inl ⟨by kernel_rfl, ?_⟩) hS ?_
      rotate_left
      · intro w' hSw; go_simp; with_reducible rfl
      try simp only [Act.put, zzA, zzB, zzC, zzD, zzE, zzF]
      refine wpAnyY_take (i := 4) (v := ?_) rfl (by kernel_rfl) (by kernel_rfl) (by kernel_rfl) (by kernel_rfl) (fun _ _ _ h => h) (Or.inl ⟨by kernel_rfl, ?_⟩) hS ?_
      rotate_left
      · intro w' hSw; have m0 := hSw.1.cell 0; have m1 := hSw.1.cell 1; have m4 := hSw.1.cell 4; have m5 := hSw.1.cell 5; have lP := hSw.1.lt; have n0 := hSw.2.cell 1; have n7 := hSw.2.cell 7; have lA := hSw.2.lt; go_simp; with_reducible rfl
      try simp only [Act.put, zzA, zzB, zzC, zzD, zzE, zzF]
      refine wpAnyY_take (i := 5) (v := ?_) rfl (by kernel_rfl) (by kernel_rfl) (by kernel_rfl) (by kernel_rfl) (fun _ _ _ h => h) (Or.inl ⟨by kernel_rfl, ?_⟩) hS ?_
      rotate_left
      · intro w' hSw; go_simp; with_reducible rfl
      try simp only [Act.put, zzA, zzB, zzC, zzD, zzE, zzF]
      refine wpAnyY_take (i := 6) (v := ?_) rfl (by kernel_rfl) (by kernel_rfl) (by kernel_rfl) (by kernel_rfl) (fun _ _ _ h => h) (Or.inl ⟨by kernel_rfl, ?_⟩) hS ?_
      rotate_left
      · intro w' hSw; have m0 := hSw.1.cell 0; have m1 := hSw.1.cell 1; have m4 := hSw.1.cell 4; have m5 := hSw.1.cell 5; have lP := hSw.1.lt; have n0 := hSw.2.cell 1; have n7 := hSw.2.cell 7; have lA := hSw.2.lt; go_simp; with_reducible rfl
      try simp only [Act.put, zzA, zzB, zzC, zzD, zzE, zzF]
      refine wpAnyY_take (i := 7) (v := ?_) rfl (by kernel_rfl) (by kernel_rfl) (by kernel_rfl) (by kernel_rfl) (fun _ _ _ h => h) (Or.inl ⟨by kernel_rfl, ?_⟩) hS ?_
      rotate_left
      · intro w' hSw; go_simp; with_reducible rfl
      try simp only [Act.put, zzA, zzB, zzC, zzD, zzE, zzF]
      refine wpAnyY_take (i := 8) (v := ?_) rfl (by kernel_rfl) (by kernel_rfl) (by kernel_rfl) (by kernel_rfl) (fun _ _ _ h => h) (Or.inl ⟨by kernel_rfl, ?_⟩) hS ?_
      rotate_left
      · intro w' hSw; go_simp; with_reducible rfl
      try simp only [Act.put, zzA, zzB, zzC, zzD, zzE, zzF]
      refine wpAnyY_take (i := 9) (v := ?_) rfl (by kernel_rfl) (by kernel_rfl) (by kernel_rfl) (by kernel_rfl) (fun _ _ _ h => h) (Or.inl ⟨by kernel_rfl, ?_⟩) hS ?_
      rotate_left
      · intro w' hSw; go_simp; with_reducible rfl
      try simp only [Act.put, zzA, zzB, zzC, zzD, zzE, zzF]
      have m4 := bP.cell 4
      have z4 := bP.frozen 4
      have lP := bP.lt
      refine wpAnyY_oneW (i := 10) (by kernel_rfl) rfl (by kernel_rfl) (by kernel_rfl) (fun K10 hK10 => ?_)
      go_simp
      refine hK10.out _ _ ?_
      clear hK10
      try simp only [Act.put, zzA, zzB, zzC, zzD, zzE, zzF]
      refine wpAnyY_done (by kernel_rfl) ?_ _
      clear hS m4 z4 lP
      replace F0 := F0.s (p := ⟨PK, 4, none⟩) (.inl (.inl rfl)) (.int .i64 (min xen ytm))
      replace bP : Blk (WD.setCell ⟨PK, 4, none⟩ (.int .i64 (min xen ytm))) PK 100 #[.int .i64 xbk, .int .i64 xsl, .int .i64 xfr, .int .i64 xwh, .int .i64 (min xen ytm), .bool xbr] := bP.set_ 4 (.int .i64 (min xen ytm))
      replace bA := bA.far (p := ⟨PK, 4, none⟩) hAP (.int .i64 (min xen ytm))
      replace bJ := bJ.far (p := ⟨PK, 4, none⟩) hJP (.int .i64 (min xen ytm))
      replace hM : SdM (WD.setCell ⟨PK, 4, none⟩ (.int .i64 (min xen ytm))) m N sd := hM.keep (Below.heap_setCell _ _ _ _ (fun e => hPm e.symm))
      generalize WD.setCell ⟨PK, 4, none⟩ (.int .i64 (min xen ytm)) = W2 at *
      go_upto_region 3 with fail
      refine wp_region_Y (S := fun W' => Blk W' PK 100 #[.int .i64 xbk, .int .i64 xsl, .int .i64 xfr, .int .i64 xwh, .int .i64 (min xen ytm), .bool xbr] ∧ Blk W' J 79 jc) 8 9 rfl (by kernel_rfl) ⟨bP.drewN 1, bJ.drewN 1⟩ (fun hS => ?_)
      replace F0 := F0.d
      replace bP : Blk W2.drew PK 100 #[.int .i64 xbk, .int .i64 xsl, .int .i64 xfr, .int .i64 xwh, .int .i64 (min xen ytm), .bool xbr] := bP.drewN 1
      replace bA : Blk W2.drew A 54 #[.int .i64 yid, .int .i64 ytm, .int .i64 5, .int .i64 ybk, .int .i64 ybd, .int .i64 ym1, .int .i64 ym2, .int .i64 xsl] := bA.drewN 1
      replace bJ : Blk W2.drew J 79 jc := bJ.drewN 1
      replace hM : SdM W2.drew m N sd := hM.keepG ((G.rf _).d)
      generalize W2.drew = WE at *
      refine wpAnyY_take (i := 0) (v := ?_) rfl (by kernel_rfl) (by kernel_rfl) (by kernel_rfl) (by kernel_rfl) (fun _ _ _ h => h) (Or.inl ⟨by kernel_rfl, ?_⟩) hS ?_
      rotate_left
      · intro w' hSw; go_simp; with_reducible rfl
      try simp only [Act.put, zzA, zzB, zzC, zzD, zzE, zzF]
      refine wpAnyY_take (i := 1) (v := ?_) rfl (by kernel_rfl) (by kernel_rfl) (by kernel_rfl) (by kernel_rfl) (fun _ _ _ h => h) (Or.inl ⟨by kernel_rfl, ?_⟩) hS ?_
      rotate_left
      · intro w' hSw; go_simp; with_reducible rfl
      try simp only [Act.put, zzA, zzB, zzC, zzD, zzE, zzF]
      refine wpAnyY_take (i := 2) (v := ?_) rfl (by kernel_rfl) (by kernel_rfl) (by kernel_rfl) (by kernel_rfl) (fun _ _ _ h => h) (Or.inl ⟨by kernel_rfl, ?_⟩) hS ?_
      rotate_left
      · intro w' hSw; go_simp; with_reducible rfl
      try simp only [Act.put, zzA, zzB, zzC, zzD, zzE, zzF]
      refine wpAnyY_take (i := 3) (v := ?_) rfl (by kernel_rfl) (by kernel_rfl) (by kernel_rfl) (by kernel_rfl) (fun _ _ _ h => h) (Or.inl ⟨by kernel_rfl, ?_⟩) hS ?_
      rotate_left
      · intro w' hSw; have m0 := hSw.1.cell 0; have lP := hSw.1.lt; have j7 := (hSw.2.cell 7).trans hj; have lJ := hSw.2.lt; go_simp; with_reducible rfl
      try simp only [Act.put, zzA, zzB, zzC, zzD, zzE, zzF]
      refine wpAnyY_take (i := 4) (v := ?_) rfl (by kernel_rfl) (by kernel_rfl) (by kernel_rfl) (by kernel_rfl) (fun _ _ _ h => h) (Or.inl ⟨by kernel_rfl, ?_⟩) hS ?_
      rotate_left
      · intro w' hSw; go_simp; with_reducible rfl
      try simp only [Act.put, zzA, zzB, zzC, zzD, zzE, zzF]
      refine wpAnyY_take (i := 5) (v := ?_) rfl (by kernel_rfl) (by kernel_rfl) (by kernel_rfl) (by kernel_rfl) (fun _ _ _ h => h) (Or.inl ⟨by kernel_rfl, ?_⟩) hS ?_
      rotate_left
      · intro w' hSw; go_simp; with_reducible rfl
      try simp only [Act.put, zzA, zzB, zzC, zzD, zzE, zzF]
      refine wpAnyY_take (i := 6) (v := ?_) rfl (by kernel_rfl) (by kernel_rfl) (by kernel_rfl) (by kernel_rfl) (fun _ _ _ h => h) (Or.inl ⟨by kernel_rfl, ?_⟩) hS ?_
      rotate_left
      · intro w' hSw; go_simp; with_reducible rfl
      try simp only [Act.put, zzA, zzB, zzC, zzD, zzE, zzF]
      refine wpAnyY_take (i := 7) (v := ?_) rfl (by kernel_rfl) (by kernel_rfl) (by kernel_rfl) (by kernel_rfl) (fun _ _ _ h => h) (Or.inl ⟨by kernel_rfl, ?_⟩) hS ?_
      rotate_left
      · intro w' hSw; have m0 := hSw.1.cell 0; have lP := hSw.1.lt; have j7 := (hSw.2.cell 7).trans hj; have lJ := hSw.2.lt; go_simp; with_reducible rfl
      try simp only [Act.put, zzA, zzB, zzC, zzD, zzE, zzF]
      obtain ⟨W5, hrun, hM5, F5⟩ := hM.drop xbk HB.out 0
      refine wpAnyY_oneW (i := 8) (by kernel_rfl) rfl (by kernel_rfl) (by kernel_rfl) (fun K8 hK8 => ?_)
      go_simp
      refine hK8.out _ _ ?_
      clear hK8
      try simp only [Act.put, zzA, zzB, zzC, zzD, zzE, zzF]
      refine wpAnyY_done (by kernel_rfl) ?_ _
      clear hS hrun hM
      replace bP := F5.blk bP hPm
      replace bA := F5.blk bA hAm
      replace F0 := F0.t2 F5 (fun i _ hi => .inr hi)
      clear F5 bJ
      go_upto_region 4 with fail
      refine wp_region_Y (S := fun W' => Blk W' PK 100 #[.int .i64 xbk, .int .i64 xsl, .int .i64 xfr, .int .i64 xwh, .int .i64 (min xen ytm), .bool xbr] ∧ Blk W' A 54 #[.int .i64 yid, .int .i64 ytm, .int .i64 5, .int .i64 ybk, .int .i64 ybd, .int .i64 ym1, .int .i64 ym2, .int .i64 xsl]) 6 7 rfl (by kernel_rfl) ⟨bP.drewN 1, bA.drewN 1⟩ (fun hS => ?_)
      replace F0 := F0.d
      replace bP : Blk W5.drew PK 100 #[.int .i64 xbk, .int .i64 xsl, .int .i64 xfr, .int .i64 xwh, .int .i64 (min xen ytm), .bool xbr] := bP.drewN 1
      replace bA : Blk W5.drew A 54 #[.int .i64 yid, .int .i64 ytm, .int .i64 5, .int .i64 ybk, .int .i64 ybd, .int .i64 ym1, .int .i64 ym2, .int .i64 xsl] := bA.drewN 1
      replace hM5 := hM5.keepG ((G.rf W5).d)
      generalize W5.drew = W6 at *
      refine wpAnyY_take (i := 0) (v := ?_) rfl (by kernel_rfl) (by kernel_rfl) (by kernel_rfl) (by kernel_rfl) (fun _ _ _ h => h) (Or.inl ⟨by kernel_rfl, ?_⟩) hS ?_
      rotate_left
      · intro w' hSw; go_simp; with_reducible rfl
      try simp only [Act.put, zzA, zzB, zzC, zzD, zzE, zzF]
      refine wpAnyY_take (i := 1) (v := ?_) rfl (by kernel_rfl) (by kernel_rfl) (by kernel_rfl) (by kernel_rfl) (fun _ _ _ h => h) (Or.inl ⟨by kernel_rfl, ?_⟩) hS ?_
      rotate_left
      · intro w' hSw; have n7 := hSw.2.cell 7; have lA := hSw.2.lt; go_simp; with_reducible rfl
      try simp only [Act.put, zzA, zzB, zzC, zzD, zzE, zzF]
      refine wpAnyY_take (i := 2) (v := ?_) rfl (by kernel_rfl) (by kernel_rfl) (by kernel_rfl) (by kernel_rfl) (fun _ _ _ h => h) (Or.inl ⟨by kernel_rfl, ?_⟩) hS ?_
      rotate_left
      · intro w' hSw; go_simp; with_reducible rfl
      try simp only [Act.put, zzA, zzB, zzC, zzD, zzE, zzF]
      refine wpAnyY_take (i := 3) (v := ?_) rfl (by kernel_rfl) (by kernel_rfl) (by kernel_rfl) (by kernel_rfl) (fun _ _ _ h => h) (Or.inl ⟨by kernel_rfl, ?_⟩) hS ?_
      rotate_left
      · intro w' hSw; go_simp; with_reducible rfl
      try simp only [Act.put, zzA, zzB, zzC, zzD, zzE, zzF]
      refine wpAnyY_take (i := 4) (v := ?_) rfl (by kernel_rfl) (by kernel_rfl) (by kernel_rfl) (by kernel_rfl) (fun _ _ _ h => h) (Or.inl ⟨by kernel_rfl, ?_⟩) hS ?_
      rotate_left
      · intro w' hSw; go_simp; with_reducible rfl
      try simp only [Act.put, zzA, zzB, zzC, zzD, zzE, zzF]
      refine wpAnyY_take (i := 5) (v := ?_) rfl (by kernel_rfl) (by kernel_rfl) (by kernel_rfl) (by kernel_rfl) (fun _ _ _ h => h) (Or.inl ⟨by kernel_rfl, ?_⟩) hS ?_
      rotate_left
      · intro w' hSw; have m1 := hSw.1.cell 1; have lP := hSw.1.lt; go_simp; with_reducible rfl
      try simp only [Act.put, zzA, zzB, zzC, zzD, zzE, zzF]
      refine wpAnyY_oneW (i := 6) (by kernel_rfl) rfl (by kernel_rfl) (by kernel_rfl) (fun K6 hK6 => ?_)
      go_simp
      refine hK6.out _ _ ?_
      clear hK6
      try simp only [Act.put, zzA, zzB, zzC, zzD, zzE, zzF]
      refine wpAnyY_done (by kernel_rfl) ?_ _
      clear hS
      have lP := bP.lt
      have lA := bA.lt
      have m3 := bP.cell 3
      have m5 := bP.cell 5
      have z3 := bP.frozen 3
      have n1 := bA.cell 1
      go_wp2_with fail
      first | exact ⟨rfl, bP.set_ 3 (.int .i64 ytm), hM5.keep (Below.heap_setCell _ _ _ _ (fun e => hPm e.symm)), F0.s (p := ⟨PK, 3, none⟩) (.inl (.inl rfl)) (.int .i64 ytm)⟩ | (go_ret; exact ⟨rfl, bP.set_ 3 (.int .i64 ytm), hM5.keep (Below.heap_setCell _ _ _ _ (fun e => hPm e.symm)), F0.s (p := ⟨PK, 3, none⟩) (.inl (.inl rfl)) (.int .i64 ytm)⟩)
    · by_cases hx : xbr = true
      · rw [show lookP ⟨xbk, xsl, xfr, xwh, xen, xbr⟩ ⟨yid, ytm, ykd, ybk, ybd, ym1, ym2, ysl⟩ = (⟨xbk, xsl, xfr, xwh, (min xen ytm), true⟩, true) from by unfold lookP; simp [hk, hs, hx]]
        rw [show lookM ⟨yid, ytm, ykd, ybk, ybd, ym1, ym2, ysl⟩ xbk sd = (fun b => if b = xbk then none else sd b) from by unfold lookM; simp [hk]]
        dsimp only
        subst hk
        have hk5 : ((5 : Int) == 5) = true := rfl
        have hs5 : (ysl == xsl) = false := by simpa using hs
        clear hs
        subst hx
        go_enter Tryz.func98, Tryz.ntmps98
        go_upto_region 2 with fail
        change Code.wp _ _ _ _ (w.alloc (.cells #[.int .i64 yid, .int .i64 ytm, .int .i64 5, .int .i64 ybk, .int .i64 ybd, .int .i64 ym1, .int .i64 ym2, .int .i64 ysl] 54))
        rw [← HA.out]
        generalize w.alloc (.cells #[.int .i64 yid, .int .i64 ytm, .int .i64 5, .int .i64 ybk, .int .i64 ybd, .int .i64 ym1, .int .i64 ym2, .int .i64 ysl] 54) = W1 at *
        refine wp_region_Y (S := fun W' => Blk W' PK 100 #[.int .i64 xbk, .int .i64 xsl, .int .i64 xfr, .int .i64 xwh, .int .i64 xen, .bool true] ∧ Blk W' A 54 #[.int .i64 yid, .int .i64 ytm, .int .i64 5, .int .i64 ybk, .int .i64 ybd, .int .i64 ym1, .int .i64 ym2, .int .i64 ysl]) 10 11 rfl (by kernel_rfl) ⟨bP.drewN 1, bA.drewN 1⟩ (fun hS => ?_)
        replace F0 := F0.d
        replace bP : Blk W1.drew PK 100 #[.int .i64 xbk, .int .i64 xsl, .int .i64 xfr, .int .i64 xwh, .int .i64 xen, .bool true] := bP.drewN 1
        replace bA : Blk W1.drew A 54 #[.int .i64 yid, .int .i64 ytm, .int .i64 5, .int .i64 ybk, .int .i64 ybd, .int .i64 ym1, .int .i64 ym2, .int .i64 ysl] := bA.drewN 1
        replace bJ : Blk W1.drew J 79 jc := bJ.drewN 1
        replace hM : SdM W1.drew m N sd := hM.keepG ((G.rf _).d)
        generalize W1.drew = WD at *
        refine wpAnyY_take (i := 0) (v := ?_) rfl (by kernel_rfl) (by kernel_rfl) (by kernel_rfl) (by kernel_rfl) (fun _ _ _ h => h) (Or.inl ⟨by kernel_rfl, ?_⟩) hS ?_
        rotate_left
        · intro w' hSw; go_simp; with_reducible rfl
        try simp only [Act.put, zzA, zzB, zzC, zzD, zzE, zzF]
        refine wpAnyY_take (i := 1) (v := ?_) rfl (by kernel_rfl) (by kernel_rfl) (by kernel_rfl) (by kernel_rfl) (fun _ _ _ h => h) (Or.inl ⟨by kernel_rfl, ?_⟩) hS ?_
        rotate_left
        · intro w' hSw; go_simp; with_reducible rfl
        try simp only [Act.put, zzA, zzB, zzC, zzD, zzE, zzF]
        refine wpAnyY_take (i := 2) (v := ?_) rfl (by kernel_rfl) (by kernel_rfl) (by kernel_rfl) (by kernel_rfl) (fun _ _ _ h => h) (Or.inl ⟨by kernel_rfl, ?_⟩) hS ?_
        rotate_left
        · intro w' hSw; go_simp; with_reducible rfl
        try simp only [Act.put, zzA, zzB, zzC, zzD, zzE, zzF]
        refine wpAnyY_take (i := 3) (v := ?_) rfl (by kernel_rfl) (by kernel_rfl) (by kernel_rfl) (by kernel_rfl) (fun _ _ _ h => h) (Or.inl ⟨by kernel_rfl, ?_⟩) hS ?_
        rotate_left
        · intro w' hSw; go_simp; with_reducible rfl
        try simp only [Act.put, zzA, zzB, zzC, zzD, zzE, zzF]
        refine wpAnyY_take (i := 4) (v := ?_) rfl (by kernel_rfl) (by kernel_rfl) (by kernel_rfl) (by kernel_rfl) (fun _ _ _ h => h) (Or.inl ⟨by kernel_rfl, ?_⟩) hS ?_
        rotate_left
        · intro w' hSw; have m0 := hSw.1.cell 0; have m1 := hSw.1.cell 1; have m4 := hSw.1.cell 4; have m5 := hSw.1.cell 5; have lP := hSw.1.lt; have n0 := hSw.2.cell 1; have n7 := hSw.2.cell 7; have lA := hSw.2.lt; go_simp; with_reducible rfl
        try simp only [Act.put, zzA, zzB, zzC, zzD, zzE, zzF]
        refine wpAnyY_take (i := 5) (v := ?_) rfl (by kernel_rfl) (by kernel_rfl) (by kernel_rfl) (by kernel_rfl) (fun _ _ _ h => h) (Or.inl ⟨by kernel_rfl, ?_⟩) hS ?_
        rotate_left
        · intro w' hSw; go_simp; with_reducible rfl
        try simp only [Act.put, zzA, zzB, zzC, zzD, zzE, zzF]
        refine wpAnyY_take (i := 6) (v := ?_) rfl (by kernel_rfl) (by kernel_rfl) (by kernel_rfl) (by kernel_rfl) (fun _ _ _ h => h) (Or.inl ⟨by kernel_rfl, ?_⟩) hS ?_
        rotate_left
        · intro w' hSw; have m0 := hSw.1.cell 0; have m1 := hSw.1.cell 1; have m4 := hSw.1.cell 4; have m5 := hSw.1.cell 5; have lP := hSw.1.lt; have n0 := hSw.2.cell 1; have n7 := hSw.2.cell 7; have lA := hSw.2.lt; go_simp; with_reducible rfl
        try simp only [Act.put, zzA, zzB, zzC, zzD, zzE, zzF]
        refine wpAnyY_take (i := 7) (v := ?_) rfl (by kernel_rfl) (by kernel_rfl) (by kernel_rfl) (by kernel_rfl) (fun _ _ _ h => h) (Or.inl ⟨by kernel_rfl, ?_⟩) hS ?_
        rotate_left
        · intro w' hSw; go_simp; with_reducible rfl
        try simp only [Act.put, zzA, zzB, zzC, zzD, zzE, zzF]
        refine wpAnyY_take (i := 8) (v := ?_) rfl (by kernel_rfl) (by kernel_rfl) (by kernel_rfl) (by kernel_rfl) (fun _ _ _ h => h) (Or.inl ⟨by kernel_rfl, ?_⟩) hS ?_
        rotate_left
        · intro w' hSw; go_simp; with_reducible rfl
        try simp only [Act.put, zzA, zzB, zzC, zzD, zzE, zzF]
        refine wpAnyY_take (i := 9) (v := ?_) rfl (by kernel_rfl) (by kernel_rfl) (by kernel_rfl) (by kernel_rfl) (fun _ _ _ h => h) (Or.inl ⟨by kernel_rfl, ?_⟩) hS ?_
        rotate_left
        · intro w' hSw; go_simp; with_reducible rfl
        try simp only [Act.put, zzA, zzB, zzC, zzD, zzE, zzF]
        have m4 := bP.cell 4
        have z4 := bP.frozen 4
        have lP := bP.lt
        refine wpAnyY_oneW (i := 10) (by kernel_rfl) rfl (by kernel_rfl) (by kernel_rfl) (fun K10 hK10 => ?_)
        go_simp
        refine hK10.out _ _ ?_
        clear hK10
        try simp only [Act.put, zzA, zzB, zzC, zzD, zzE, zzF]
        refine wpAnyY_done (by kernel_rfl) ?_ _
        clear hS m4 z4 lP
        replace F0 := F0.s (p := ⟨PK, 4, none⟩) (.inl (.inl rfl)) (.int .i64 (min xen ytm))
        replace bP : Blk (WD.setCell ⟨PK, 4, none⟩ (.int .i64 (min xen ytm))) PK 100 #[.int .i64 xbk, .int .i64 xsl, .int .i64 xfr, .int .i64 xwh, .int .i64 (min xen ytm), .bool true] := bP.set_ 4 (.int .i64 (min xen ytm))
        replace bA := bA.far (p := ⟨PK, 4, none⟩) hAP (.int .i64 (min xen ytm))
        replace bJ := bJ.far (p := ⟨PK, 4, none⟩) hJP (.int .i64 (min xen ytm))
        replace hM : SdM (WD.setCell ⟨PK, 4, none⟩ (.int .i64 (min xen ytm))) m N sd := hM.keep (Below.heap_setCell _ _ _ _ (fun e => hPm e.symm))
        generalize WD.setCell ⟨PK, 4, none⟩ (.int .i64 (min xen ytm)) = W2 at *
        go_upto_region 3 with fail
        refine wp_region_Y (S := fun W' => Blk W' PK 100 #[.int .i64 xbk, .int .i64 xsl, .int .i64 xfr, .int .i64 xwh, .int .i64 (min xen ytm), .bool true] ∧ Blk W' J 79 jc) 8 9 rfl (by kernel_rfl) ⟨bP.drewN 1, bJ.drewN 1⟩ (fun hS => ?_)
        replace F0 := F0.d
        replace bP : Blk W2.drew PK 100 #[.int .i64 xbk, .int .i64 xsl, .int .i64 xfr, .int .i64 xwh, .int .i64 (min xen ytm), .bool true] := bP.drewN 1
        replace bA : Blk W2.drew A 54 #[.int .i64 yid, .int .i64 ytm, .int .i64 5, .int .i64 ybk, .int .i64 ybd, .int .i64 ym1, .int .i64 ym2, .int .i64 ysl] := bA.drewN 1
        replace bJ : Blk W2.drew J 79 jc := bJ.drewN 1
        replace hM : SdM W2.drew m N sd := hM.keepG ((G.rf _).d)
        generalize W2.drew = WE at *
        refine wpAnyY_take (i := 0) (v := ?_) rfl (by kernel_rfl) (by kernel_rfl) (by kernel_rfl) (by kernel_rfl) (fun _ _ _ h => h) (Or.inl ⟨by kernel_rfl, ?_⟩) hS ?_
        rotate_left
        · intro w' hSw; go_simp; with_reducible rfl
        try simp only [Act.put, zzA, zzB, zzC, zzD, zzE, zzF]
        refine wpAnyY_take (i := 1) (v := ?_) rfl (by kernel_rfl) (by kernel_rfl) (by kernel_rfl) (by kernel_rfl) (fun _ _ _ h => h) (Or.inl ⟨by kernel_rfl, ?_⟩) hS ?_
        rotate_left
        · intro w' hSw; go_simp; with_reducible rfl
        try simp only [Act.put, zzA, zzB, zzC, zzD, zzE, zzF]
        refine wpAnyY_take (i := 2) (v := ?_) rfl (by kernel_rfl) (by kernel_rfl) (by kernel_rfl) (by kernel_rfl) (fun _ _ _ h => h) (Or.inl ⟨by kernel_rfl, ?_⟩) hS ?_
        rotate_left
        · intro w' hSw; go_simp; with_reducible rfl
        try simp only [Act.put, zzA, zzB, zzC, zzD, zzE, zzF]
        refine wpAnyY_take (i := 3) (v := ?_) rfl (by kernel_rfl) (by kernel_rfl) (by kernel_rfl) (by kernel_rfl) (fun _ _ _ h => h) (Or.inl ⟨by kernel_rfl, ?_⟩) hS ?_
        rotate_left
        · intro w' hSw; have m0 := hSw.1.cell 0; have lP := hSw.1.lt; have j7 := (hSw.2.cell 7).trans hj; have lJ := hSw.2.lt; go_simp; with_reducible rfl
        try simp only [Act.put, zzA, zzB, zzC, zzD, zzE, zzF]
        refine wpAnyY_take (i := 4) (v := ?_) rfl (by kernel_rfl) (by kernel_rfl) (by kernel_rfl) (by kernel_rfl) (fun _ _ _ h => h) (Or.inl ⟨by kernel_rfl, ?_⟩) hS ?_
        rotate_left
        · intro w' hSw; go_simp; with_reducible rfl
        try simp only [Act.put, zzA, zzB, zzC, zzD, zzE, zzF]
        refine wpAnyY_take (i := 5) (v := ?_) rfl (by kernel_rfl) (by kernel_rfl) (by kernel_rfl) (by kernel_rfl) (fun _ _ _ h => h) (Or.inl ⟨by kernel_rfl, ?_⟩) hS ?_
        rotate_left
        · intro w' hSw; go_simp; with_reducible rfl
        try simp only [Act.put, zzA, zzB, zzC, zzD, zzE, zzF]
        refine wpAnyY_take (i := 6) (v := ?_) rfl (by kernel_rfl) (by kernel_rfl) (by kernel_rfl) (by kernel_rfl) (fun _ _ _ h => h) (Or.inl ⟨by kernel_rfl, ?_⟩) hS ?_
        rotate_left
        · intro w' hSw; go_simp; with_reducible rfl
        try simp only [Act.put, zzA, zzB, zzC, zzD, zzE, zzF]
        refine wpAnyY_take (i := 7) (v := ?_) rfl (by kernel_rfl) (by kernel_rfl) (by kernel_rfl) (by kernel_rfl) (fun _ _ _ h => h) (Or.inl ⟨by kernel_rfl, ?_⟩) hS ?_
        rotate_left
        · intro w' hSw; have m0 := hSw.1.cell 0; have lP := hSw.1.lt; have j7 := (hSw.2.cell 7).trans hj; have lJ := hSw.2.lt; go_simp; with_reducible rfl
        try simp only [Act.put, zzA, zzB, zzC, zzD, zzE, zzF]
        obtain ⟨W5, hrun, hM5, F5⟩ := hM.drop xbk HB.out 0
        refine wpAnyY_oneW (i := 8) (by kernel_rfl) rfl (by kernel_rfl) (by kernel_rfl) (fun K8 hK8 => ?_)
        go_simp
        refine hK8.out _ _ ?_
        clear hK8
        try simp only [Act.put, zzA, zzB, zzC, zzD, zzE, zzF]
        refine wpAnyY_done (by kernel_rfl) ?_ _
        clear hS hrun hM
        replace bP := F5.blk bP hPm
        replace bA := F5.blk bA hAm
        replace F0 := F0.t2 F5 (fun i _ hi => .inr hi)
        clear F5 bJ
        go_upto_region 4 with fail
        refine wp_region_Y (S := fun W' => Blk W' PK 100 #[.int .i64 xbk, .int .i64 xsl, .int .i64 xfr, .int .i64 xwh, .int .i64 (min xen ytm), .bool true] ∧ Blk W' A 54 #[.int .i64 yid, .int .i64 ytm, .int .i64 5, .int .i64 ybk, .int .i64 ybd, .int .i64 ym1, .int .i64 ym2, .int .i64 ysl]) 6 7 rfl (by kernel_rfl) ⟨bP.drewN 1, bA.drewN 1⟩ (fun hS => ?_)
        replace F0 := F0.d
        replace bP : Blk W5.drew PK 100 #[.int .i64 xbk, .int .i64 xsl, .int .i64 xfr, .int .i64 xwh, .int .i64 (min xen ytm), .bool true] := bP.drewN 1
        replace bA : Blk W5.drew A 54 #[.int .i64 yid, .int .i64 ytm, .int .i64 5, .int .i64 ybk, .int .i64 ybd, .int .i64 ym1, .int .i64 ym2, .int .i64 ysl] := bA.drewN 1
        replace hM5 := hM5.keepG ((G.rf W5).d)
        generalize W5.drew = W6 at *
        refine wpAnyY_take (i := 0) (v := ?_) rfl (by kernel_rfl) (by kernel_rfl) (by kernel_rfl) (by kernel_rfl) (fun _ _ _ h => h) (Or.inl ⟨by kernel_rfl, ?_⟩) hS ?_
        rotate_left
        · intro w' hSw; go_simp; with_reducible rfl
        try simp only [Act.put, zzA, zzB, zzC, zzD, zzE, zzF]
        refine wpAnyY_take (i := 1) (v := ?_) rfl (by kernel_rfl) (by kernel_rfl) (by kernel_rfl) (by kernel_rfl) (fun _ _ _ h => h) (Or.inl ⟨by kernel_rfl, ?_⟩) hS ?_
        rotate_left
        · intro w' hSw; have n7 := hSw.2.cell 7; have lA := hSw.2.lt; go_simp; with_reducible rfl
        try simp only [Act.put, zzA, zzB, zzC, zzD, zzE, zzF]
        refine wpAnyY_take (i := 2) (v := ?_) rfl (by kernel_rfl) (by kernel_rfl) (by kernel_rfl) (by kernel_rfl) (fun _ _ _ h => h) (Or.inl ⟨by kernel_rfl, ?_⟩) hS ?_
        rotate_left
        · intro w' hSw; go_simp; with_reducible rfl
        try simp only [Act.put, zzA, zzB, zzC, zzD, zzE, zzF]
        refine wpAnyY_take (i := 3) (v := ?_) rfl (by kernel_rfl) (by kernel_rfl) (by kernel_rfl) (by kernel_rfl) (fun _ _ _ h => h) (Or.inl ⟨by kernel_rfl, ?_⟩) hS ?_
        rotate_left
        · intro w' hSw; go_simp; with_reducible rfl
        try simp only [Act.put, zzA, zzB, zzC, zzD, zzE, zzF]
        refine wpAnyY_take (i := 4) (v := ?_) rfl (by kernel_rfl) (by kernel_rfl) (by kernel_rfl) (by kernel_rfl) (fun _ _ _ h => h) (Or.inl ⟨by kernel_rfl, ?_⟩) hS ?_
        rotate_left
        · intro w' hSw; go_simp; with_reducible rfl
        try simp only [Act.put, zzA, zzB, zzC, zzD, zzE, zzF]
        refine wpAnyY_take (i := 5) (v := ?_) rfl (by kernel_rfl) (by kernel_rfl) (by kernel_rfl) (by kernel_rfl) (fun _ _ _ h => h) (Or.inl ⟨by kernel_rfl, ?_⟩) hS ?_
        rotate_left
        · intro w' hSw; have m1 := hSw.1.cell 1; have lP := hSw.1.lt; go_simp; with_reducible rfl
        try simp only [Act.put, zzA, zzB, zzC, zzD, zzE, zzF]
        refine wpAnyY_oneW (i := 6) (by kernel_rfl) rfl (by kernel_rfl) (by kernel_rfl) (fun K6 hK6 => ?_)
        go_simp
        refine hK6.out _ _ ?_
        clear hK6
        try simp only [Act.put, zzA, zzB, zzC, zzD, zzE, zzF]
        refine wpAnyY_done (by kernel_rfl) ?_ _
        clear hS
        have lP := bP.lt
        have lA := bA.lt
        have m5 := bP.cell 5
        go_wp2_with fail
        first | exact ⟨rfl, bP, hM5, F0⟩ | (go_ret; exact ⟨rfl, bP, hM5, F0⟩)
      · replace hx : xbr = false := by simpa using hx
        rw [show lookP ⟨xbk, xsl, xfr, xwh, xen, xbr⟩ ⟨yid, ytm, ykd, ybk, ybd, ym1, ym2, ysl⟩ = (⟨xbk, xsl, xfr, xwh, ytm, true⟩, decide (xwh < ytm)) from by unfold lookP; simp [hk, hs, hx]]
        rw [show lookM ⟨yid, ytm, ykd, ybk, ybd, ym1, ym2, ysl⟩ xbk sd = (fun b => if b = xbk then none else sd b) from by unfold lookM; simp [hk]]
        dsimp only
        subst hk
        have hk5 : ((5 : Int) == 5) = true := rfl
        have hs5 : (ysl == xsl) = false := by simpa using hs
        clear hs
        subst hx
        go_enter Tryz.func98, Tryz.ntmps98
        go_upto_region 2 with fail
        change Code.wp _ _ _ _ (w.alloc (.cells #[.int .i64 yid, .int .i64 ytm, .int .i64 5, .int .i64 ybk, .int .i64 ybd, .int .i64 ym1, .int .i64 ym2, .int .i64 ysl] 54))
        rw [← HA.out]
        generalize w.alloc (.cells #[.int .i64 yid, .int .i64 ytm, .int .i64 5, .int .i64 ybk, .int .i64 ybd, .int .i64 ym1, .int .i64 ym2, .int .i64 ysl] 54) = W1 at *
        refine wp_region_Y (S := fun W' => Blk W' PK 100 #[.int .i64 xbk, .int .i64 xsl, .int .i64 xfr, .int .i64 xwh, .int .i64 xen, .bool false] ∧ Blk W' A 54 #[.int .i64 yid, .int .i64 ytm, .int .i64 5, .int .i64 ybk, .int .i64 ybd, .int .i64 ym1, .int .i64 ym2, .int .i64 ysl]) 10 11 rfl (by kernel_rfl) ⟨bP.drewN 1, bA.drewN 1⟩ (fun hS => ?_)
        replace F0 := F0.d
        replace bP : Blk W1.drew PK 100 #[.int .i64 xbk, .int .i64 xsl, .int .i64 xfr, .int .i64 xwh, .int .i64 xen, .bool false] := bP.drewN 1
        replace bA : Blk W1.drew A 54 #[.int .i64 yid, .int .i64 ytm, .int .i64 5, .int .i64 ybk, .int .i64 ybd, .int .i64 ym1, .int .i64 ym2, .int .i64 ysl] := bA.drewN 1
        replace bJ : Blk W1.drew J 79 jc := bJ.drewN 1
        replace hM : SdM W1.drew m N sd := hM.keepG ((G.rf _).d)
        generalize W1.drew = WD at *
        refine wpAnyY_take (i := 0) (v := ?_) rfl (by kernel_rfl) (by kernel_rfl) (by kernel_rfl) (by kernel_rfl) (fun _ _ _ h => h) (Or.inl ⟨by kernel_rfl, ?_⟩) hS ?_
        rotate_left
        · intro w' hSw; go_simp; with_reducible rfl
        try simp only [Act.put, zzA, zzB, zzC, zzD, zzE, zzF]
        refine wpAnyY_take (i := 1) (v := ?_) rfl (by kernel_rfl) (by kernel_rfl) (by kernel_rfl) (by kernel_rfl) (fun _ _ _ h => h) (Or.inl ⟨by kernel_rfl, ?_⟩) hS ?_
        rotate_left
        · intro w' hSw; go_simp; with_reducible rfl
        try simp only [Act.put, zzA, zzB, zzC, zzD, zzE, zzF]
        refine wpAnyY_take (i := 2) (v := ?_) rfl (by kernel_rfl) (by kernel_rfl) (by kernel_rfl) (by kernel_rfl) (fun _ _ _ h => h) (Or.inl ⟨by kernel_rfl, ?_⟩) hS ?_
        rotate_left
        · intro w' hSw; go_simp; with_reducible rfl
        try simp only [Act.put, zzA, zzB, zzC, zzD, zzE, zzF]
        refine wpAnyY_take (i := 3) (v := ?_) rfl (by kernel_rfl) (by kernel_rfl) (by kernel_rfl) (by kernel_rfl) (fun _ _ _ h => h) (Or.inl ⟨by kernel_rfl, ?_⟩) hS ?_
        rotate_left
        · intro w' hSw; go_simp; with_reducible rfl
        try simp only [Act.put, zzA, zzB, zzC, zzD, zzE, zzF]
        refine wpAnyY_take (i := 4) (v := ?_) rfl (by kernel_rfl) (by kernel_rfl) (by kernel_rfl) (by kernel_rfl) (fun _ _ _ h => h) (Or.inl ⟨by kernel_rfl, ?_⟩) hS ?_
        rotate_left
        · intro w' hSw; have m0 := hSw.1.cell 0; have m1 := hSw.1.cell 1; have m4 := hSw.1.cell 4; have m5 := hSw.1.cell 5; have lP := hSw.1.lt; have n0 := hSw.2.cell 1; have n7 := hSw.2.cell 7; have lA := hSw.2.lt; go_simp; with_reducible rfl
        try simp only [Act.put, zzA, zzB, zzC, zzD, zzE, zzF]
        refine wpAnyY_take (i := 5) (v := ?_) rfl (by kernel_rfl) (by kernel_rfl) (by kernel_rfl) (by kernel_rfl) (fun _ _ _ h => h) (Or.inl ⟨by kernel_rfl, ?_⟩) hS ?_
        rotate_left
        · intro w' hSw; go_simp; with_reducible rfl
        try simp only [Act.put, zzA, zzB, zzC, zzD, zzE, zzF]
        refine wpAnyY_take (i := 6) (v := ?_) rfl (by kernel_rfl) (by kernel_rfl) (by kernel_rfl) (by kernel_rfl) (fun _ _ _ h => h) (Or.inl ⟨by kernel_rfl, ?_⟩) hS ?_
        rotate_left
        · intro w' hSw; have m0 := hSw.1.cell 0; have m1 := hSw.1.cell 1; have m4 := hSw.1.cell 4; have m5 := hSw.1.cell 5; have lP := hSw.1.lt; have n0 := hSw.2.cell 1; have n7 := hSw.2.cell 7; have lA := hSw.2.lt; go_simp; with_reducible rfl
        try simp only [Act.put, zzA, zzB, zzC, zzD, zzE, zzF]
        refine wpAnyY_take (i := 7) (v := ?_) rfl (by kernel_rfl) (by kernel_rfl) (by kernel_rfl) (by kernel_rfl) (fun _ _ _ h => h) (Or.inl ⟨by kernel_rfl, ?_⟩) hS ?_
        rotate_left
        · intro w' hSw; go_simp; with_reducible rfl
        try simp only [Act.put, zzA, zzB, zzC, zzD, zzE, zzF]
        refine wpAnyY_take (i := 8) (v := ?_) rfl (by kernel_rfl) (by kernel_rfl) (by kernel_rfl) (by kernel_rfl) (fun _ _ _ h => h) (Or.inl ⟨by kernel_rfl, ?_⟩) hS ?_
        rotate_left
        · intro w' hSw; go_simp; with_reducible rfl
        try simp only [Act.put, zzA, zzB, zzC, zzD, zzE, zzF]
        refine wpAnyY_take (i := 9) (v := ?_) rfl (by kernel_rfl) (by kernel_rfl) (by kernel_rfl) (by kernel_rfl) (fun _ _ _ h => h) (Or.inl ⟨by kernel_rfl, ?_⟩) hS ?_
        rotate_left
        · intro w' hSw; go_simp; with_reducible rfl
        try simp only [Act.put, zzA, zzB, zzC, zzD, zzE, zzF]
        have m4 := bP.cell 4
        have z4 := bP.frozen 4
        have lP := bP.lt
        refine wpAnyY_oneW (i := 10) (by kernel_rfl) rfl (by kernel_rfl) (by kernel_rfl) (fun K10 hK10 => ?_)
        go_simp
        refine hK10.out _ _ ?_
        clear hK10
        try simp only [Act.put, zzA, zzB, zzC, zzD, zzE, zzF]
        refine wpAnyY_done (by kernel_rfl) ?_ _
        clear hS m4 z4 lP
        replace F0 := F0.s (p := ⟨PK, 4, none⟩) (.inl (.inl rfl)) (.int .i64 (min xen ytm))
        replace bP : Blk (WD.setCell ⟨PK, 4, none⟩ (.int .i64 (min xen ytm))) PK 100 #[.int .i64 xbk, .int .i64 xsl, .int .i64 xfr, .int .i64 xwh, .int .i64 (min xen ytm), .bool false] := bP.set_ 4 (.int .i64 (min xen ytm))
        replace bA := bA.far (p := ⟨PK, 4, none⟩) hAP (.int .i64 (min xen ytm))
        replace bJ := bJ.far (p := ⟨PK, 4, none⟩) hJP (.int .i64 (min xen ytm))
        replace hM : SdM (WD.setCell ⟨PK, 4, none⟩ (.int .i64 (min xen ytm))) m N sd := hM.keep (Below.heap_setCell _ _ _ _ (fun e => hPm e.symm))
        generalize WD.setCell ⟨PK, 4, none⟩ (.int .i64 (min xen ytm)) = W2 at *
        go_upto_region 3 with fail
        refine wp_region_Y (S := fun W' => Blk W' PK 100 #[.int .i64 xbk, .int .i64 xsl, .int .i64 xfr, .int .i64 xwh, .int .i64 (min xen ytm), .bool false] ∧ Blk W' J 79 jc) 8 9 rfl (by kernel_rfl) ⟨bP.drewN 1, bJ.drewN 1⟩ (fun hS => ?_)
        replace F0 := F0.d
        replace bP : Blk W2.drew PK 100 #[.int .i64 xbk, .int .i64 xsl, .int .i64 xfr, .int .i64 xwh, .int .i64 (min xen ytm), .bool false] := bP.drewN 1
        replace bA : Blk W2.drew A 54 #[.int .i64 yid, .int .i64 ytm, .int .i64 5, .int .i64 ybk, .int .i64 ybd, .int .i64 ym1, .int .i64 ym2, .int .i64 ysl] := bA.drewN 1
        replace bJ : Blk W2.drew J 79 jc := bJ.drewN 1
        replace hM : SdM W2.drew m N sd := hM.keepG ((G.rf _).d)
        generalize W2.drew = WE at *
        refine wpAnyY_take (i := 0) (v := ?_) rfl (by kernel_rfl) (by kernel_rfl) (by kernel_rfl) (by kernel_rfl) (fun _ _ _ h => h) (Or.inl ⟨by kernel_rfl, ?_⟩) hS ?_
        rotate_left
        · intro w' hSw; go_simp; with_reducible rfl
        try simp only [Act.put, zzA, zzB, zzC, zzD, zzE, zzF]
        refine wpAnyY_take (i := 1) (v := ?_) rfl (by kernel_rfl) (by kernel_rfl) (by kernel_rfl) (by kernel_rfl) (fun _ _ _ h => h) (Or.inl ⟨by kernel_rfl, ?_⟩) hS ?_
        rotate_left
        · intro w' hSw; go_simp; with_reducible rfl
        try simp only [Act.put, zzA, zzB, zzC, zzD, zzE, zzF]
        refine wpAnyY_take (i := 2) (v := ?_) rfl (by kernel_rfl) (by kernel_rfl) (by kernel_rfl) (by kernel_rfl) (fun _ _ _ h => h) (Or.inl ⟨by kernel_rfl, ?_⟩) hS ?_
        rotate_left
        · intro w' hSw; go_simp; with_reducible rfl
        try simp only [Act.put, zzA, zzB, zzC, zzD, zzE, zzF]
        refine wpAnyY_take (i := 3) (v := ?_) rfl (by kernel_rfl) (by kernel_rfl) (by kernel_rfl) (by kernel_rfl) (fun _ _ _ h => h) (Or.inl ⟨by kernel_rfl, ?_⟩) hS ?_
        rotate_left
        · intro w' hSw; have m0 := hSw.1.cell 0; have lP := hSw.1.lt; have j7 := (hSw.2.cell 7).trans hj; have lJ := hSw.2.lt; go_simp; with_reducible rfl
        try simp only [Act.put, zzA, zzB, zzC, zzD, zzE, zzF]
        refine wpAnyY_take (i := 4) (v := ?_) rfl (by kernel_rfl) (by kernel_rfl) (by kernel_rfl) (by kernel_rfl) (fun _ _ _ h => h) (Or.inl ⟨by kernel_rfl, ?_⟩) hS ?_
        rotate_left
        · intro w' hSw; go_simp; with_reducible rfl
        try simp only [Act.put, zzA, zzB, zzC, zzD, zzE, zzF]
        refine wpAnyY_take (i := 5) (v := ?_) rfl (by kernel_rfl) (by kernel_rfl) (by kernel_rfl) (by kernel_rfl) (fun _ _ _ h => h) (Or.inl ⟨by kernel_rfl, ?_⟩) hS ?_
        rotate_left
        · intro w' hSw; go_simp; with_reducible rfl
        try simp only [Act.put, zzA, zzB, zzC, zzD, zzE, zzF]
        refine wpAnyY_take (i := 6) (v := ?_) rfl (by kernel_rfl) (by kernel_rfl) (by kernel_rfl) (by kernel_rfl) (fun _ _ _ h => h) (Or.inl ⟨by kernel_rfl, ?_⟩) hS ?_
        rotate_left
        · intro w' hSw; go_simp; with_reducible rfl
        try simp only [Act.put, zzA, zzB, zzC, zzD, zzE, zzF]
        refine wpAnyY_take (i := 7) (v := ?_) rfl (by kernel_rfl) (by kernel_rfl) (by kernel_rfl) (by kernel_rfl) (fun _ _ _ h => h) (Or.inl ⟨by kernel_rfl, ?_⟩) hS ?_
        rotate_left
        · intro w' hSw; have m0 := hSw.1.cell 0; have lP := hSw.1.lt; have j7 := (hSw.2.cell 7).trans hj; have lJ := hSw.2.lt; go_simp; with_reducible rfl
        try simp only [Act.put, zzA, zzB, zzC, zzD, zzE, zzF]
        obtain ⟨W5, hrun, hM5, F5⟩ := hM.drop xbk HB.out 0
        refine wpAnyY_oneW (i := 8) (by kernel_rfl) rfl (by kernel_rfl) (by kernel_rfl) (fun K8 hK8 => ?_)
        go_simp
        refine hK8.out _ _ ?_
        clear hK8
        try simp only [Act.put, zzA, zzB, zzC, zzD, zzE, zzF]
        refine wpAnyY_done (by kernel_rfl) ?_ _
        clear hS hrun hM
        replace bP := F5.blk bP hPm
        replace bA := F5.blk bA hAm
        replace F0 := F0.t2 F5 (fun i _ hi => .inr hi)
        clear F5 bJ
        go_upto_region 4 with fail
        refine wp_region_Y (S := fun W' => Blk W' PK 100 #[.int .i64 xbk, .int .i64 xsl, .int .i64 xfr, .int .i64 xwh, .int .i64 (min xen ytm), .bool false] ∧ Blk W' A 54 #[.int .i64 yid, .int .i64 ytm, .int .i64 5, .int .i64 ybk, .int .i64 ybd, .int .i64 ym1, .int .i64 ym2, .int .i64 ysl]) 6 7 rfl (by kernel_rfl) ⟨bP.drewN 1, bA.drewN 1⟩ (fun hS => ?_)
        replace F0 := F0.d
        replace bP : Blk W5.drew PK 100 #[.int .i64 xbk, .int .i64 xsl, .int .i64 xfr, .int .i64 xwh, .int .i64 (min xen ytm), .bool false] := bP.drewN 1
        replace bA : Blk W5.drew A 54 #[.int .i64 yid, .int .i64 ytm, .int .i64 5, .int .i64 ybk, .int .i64 ybd, .int .i64 ym1, .int .i64 ym2, .int .i64 ysl] := bA.drewN 1
        replace hM5 := hM5.keepG ((G.rf W5).d)
        generalize W5.drew = W6 at *
        refine wpAnyY_take (i := 0) (v := ?_) rfl (by kernel_rfl) (by kernel_rfl) (by kernel_rfl) (by kernel_rfl) (fun _ _ _ h => h) (Or.inl ⟨by kernel_rfl, ?_⟩) hS ?_
        rotate_left
        · intro w' hSw; go_simp; with_reducible rfl
        try simp only [Act.put, zzA, zzB, zzC, zzD, zzE, zzF]
        refine wpAnyY_take (i := 1) (v := ?_) rfl (by kernel_rfl) (by kernel_rfl) (by kernel_rfl) (by kernel_rfl) (fun _ _ _ h => h) (Or.inl ⟨by kernel_rfl, ?_⟩) hS ?_
        rotate_left
        · intro w' hSw; have n7 := hSw.2.cell 7; have lA := hSw.2.lt; go_simp; with_reducible rfl
        try simp only [Act.put, zzA, zzB, zzC, zzD, zzE, zzF]
        refine wpAnyY_take (i := 2) (v := ?_) rfl (by kernel_rfl) (by kernel_rfl) (by kernel_rfl) (by kernel_rfl) (fun _ _ _ h => h) (Or.inl ⟨by kernel_rfl, ?_⟩) hS ?_
        rotate_left
        · intro w' hSw; go_simp; with_reducible rfl
        try simp only [Act.put, zzA, zzB, zzC, zzD, zzE, zzF]
        refine wpAnyY_take (i := 3) (v := ?_) rfl (by kernel_rfl) (by kernel_rfl) (by kernel_rfl) (by kernel_rfl) (fun _ _ _ h => h) (Or.inl ⟨by kernel_rfl, ?_⟩) hS ?_
        rotate_left
        · intro w' hSw; go_simp; with_reducible rfl
        try simp only [Act.put, zzA, zzB, zzC, zzD, zzE, zzF]
        refine wpAnyY_take (i := 4) (v := ?_) rfl (by kernel_rfl) (by kernel_rfl) (by kernel_rfl) (by kernel_rfl) (fun _ _ _ h => h) (Or.inl ⟨by kernel_rfl, ?_⟩) hS ?_
        rotate_left
        · intro w' hSw; go_simp; with_reducible rfl
        try simp only [Act.put, zzA, zzB, zzC, zzD, zzE, zzF]
        refine wpAnyY_take (i := 5) (v := ?_) rfl (by kernel_rfl) (by kernel_rfl) (by kernel_rfl) (by kernel_rfl) (fun _ _ _ h => h) (Or.inl ⟨by kernel_rfl, ?_⟩) hS ?_
        rotate_left
        · intro w' hSw; have m1 := hSw.1.cell 1; have lP := hSw.1.lt; go_simp; with_reducible rfl
        try simp only [Act.put, zzA, zzB, zzC, zzD, zzE, zzF]
        refine wpAnyY_oneW (i := 6) (by kernel_rfl) rfl (by kernel_rfl) (by kernel_rfl) (fun K6 hK6 => ?_)
        go_simp
        refine hK6.out _ _ ?_
        clear hK6
        try simp only [Act.put, zzA, zzB, zzC, zzD, zzE, zzF]
        refine wpAnyY_done (by kernel_rfl) ?_ _
        clear hS
        have lP := bP.lt
        have lA := bA.lt
        have m5 := bP.cell 5
        go_upto_region 9 with fail
        clear lP lA m5
        refine wp_region_Y (S := fun W' => Blk W' A 54 #[.int .i64 yid, .int .i64 ytm, .int .i64 5, .int .i64 ybk, .int .i64 ybd, .int .i64 ym1, .int .i64 ym2, .int .i64 ysl]) 9 10 rfl (by kernel_rfl) (bA.drewN 1) (fun hS => ?_)
        replace F0 := F0.d
        replace bP : Blk W6.drew PK 100 #[.int .i64 xbk, .int .i64 xsl, .int .i64 xfr, .int .i64 xwh, .int .i64 (min xen ytm), .bool false] := bP.drewN 1
        replace bA : Blk W6.drew A 54 #[.int .i64 yid, .int .i64 ytm, .int .i64 5, .int .i64 ybk, .int .i64 ybd, .int .i64 ym1, .int .i64 ym2, .int .i64 ysl] := bA.drewN 1
        replace hM5 := hM5.keepG ((G.rf W6).d)
        generalize W6.drew = WF at *
        refine wpAnyY_take (i := 0) (v := ?_) rfl (by kernel_rfl) (by kernel_rfl) (by kernel_rfl) (by kernel_rfl) (fun _ _ _ h => h) (Or.inl ⟨by kernel_rfl, ?_⟩) hS ?_
        rotate_left
        · intro w' hSw; go_simp; with_reducible rfl
        try simp only [Act.put, zzA, zzB, zzC, zzD, zzE, zzF]
        refine wpAnyY_take (i := 1) (v := ?_) rfl (by kernel_rfl) (by kernel_rfl) (by kernel_rfl) (by kernel_rfl) (fun _ _ _ h => h) (Or.inl ⟨by kernel_rfl, ?_⟩) hS ?_
        rotate_left
        · intro w' hSw; go_simp; with_reducible rfl
        try simp only [Act.put, zzA, zzB, zzC, zzD, zzE, zzF]
        refine wpAnyY_take (i := 2) (v := ?_) rfl (by kernel_rfl) (by kernel_rfl) (by kernel_rfl) (by kernel_rfl) (fun _ _ _ h => h) (Or.inl ⟨by kernel_rfl, ?_⟩) hS ?_
        rotate_left
        · intro w' hSw; go_simp; with_reducible rfl
        try simp only [Act.put, zzA, zzB, zzC, zzD, zzE, zzF]
        refine wpAnyY_take (i := 3) (v := ?_) rfl (by kernel_rfl) (by kernel_rfl) (by kernel_rfl) (by kernel_rfl) (fun _ _ _ h => h) (Or.inl ⟨by kernel_rfl, ?_⟩) hS ?_
        rotate_left
        · intro w' hSw; have n1 := hSw.cell 1; have lA := hSw.lt; go_simp; with_reducible rfl
        try simp only [Act.put, zzA, zzB, zzC, zzD, zzE, zzF]
        refine wpAnyY_take (i := 4) (v := ?_) rfl (by kernel_rfl) (by kernel_rfl) (by kernel_rfl) (by kernel_rfl) (fun _ _ _ h => h) (Or.inl ⟨by kernel_rfl, ?_⟩) hS ?_
        rotate_left
        · intro w' hSw; go_simp; with_reducible rfl
        try simp only [Act.put, zzA, zzB, zzC, zzD, zzE, zzF]
        refine wpAnyY_take (i := 5) (v := ?_) rfl (by kernel_rfl) (by kernel_rfl) (by kernel_rfl) (by kernel_rfl) (fun _ _ _ h => h) (Or.inl ⟨by kernel_rfl, ?_⟩) hS ?_
        rotate_left
        · intro w' hSw; go_simp; with_reducible rfl
        try simp only [Act.put, zzA, zzB, zzC, zzD, zzE, zzF]
        have m5 := bP.cell 5
        have z5 := bP.frozen 5
        have m4 := bP.cell 4
        have z4 := bP.frozen 4
        have lP := bP.lt
        refine wpAnyY_oneSW (i := 6) (by kernel_rfl) rfl (by kernel_rfl) (fun K6 hK6 => ?_)
        go_simp
        refine hK6.out _ _ (bA.far (p := ⟨PK, 5, none⟩) hAP _) (fun hS => ?_)
        clear hK6
        try simp only [Act.put, zzA, zzB, zzC, zzD, zzE, zzF]
        refine wpAnyY_take (i := 7) (v := ?_) rfl (by kernel_rfl) (by kernel_rfl) (by kernel_rfl) (by kernel_rfl) (fun _ _ _ h => h) (Or.inl ⟨by kernel_rfl, ?_⟩) hS ?_
        rotate_left
        · intro w' hSw; go_simp; with_reducible rfl
        try simp only [Act.put, zzA, zzB, zzC, zzD, zzE, zzF]
        refine wpAnyY_take (i := 8) (v := ?_) rfl (by kernel_rfl) (by kernel_rfl) (by kernel_rfl) (by kernel_rfl) (fun _ _ _ h => h) (Or.inl ⟨by kernel_rfl, ?_⟩) hS ?_
        rotate_left
        · intro w' hSw; go_simp; with_reducible rfl
        try simp only [Act.put, zzA, zzB, zzC, zzD, zzE, zzF]
        refine wpAnyY_oneW (i := 9) (by kernel_rfl) rfl (by kernel_rfl) (by kernel_rfl) (fun K9 hK9 => ?_)
        go_simp
        refine hK9.out _ _ ?_
        clear hK9
        try simp only [Act.put, zzA, zzB, zzC, zzD, zzE, zzF]
        refine wpAnyY_done (by kernel_rfl) ?_ _
        clear hS m5 z5 m4 z4 lP
        replace F0 := (F0.s (p := ⟨PK, 5, none⟩) (.inl (.inl rfl)) (.bool true)).s (p := ⟨PK, 4, none⟩) (.inl (.inl rfl)) (.int .i64 ytm)
        replace bP : Blk ((WF.setCell ⟨PK, 5, none⟩ (.bool true)).setCell ⟨PK, 4, none⟩ (.int .i64 ytm)) PK 100 #[.int .i64 xbk, .int .i64 xsl, .int .i64 xfr, .int .i64 xwh, .int .i64 ytm, .bool true] := (bP.set_ 5 (.bool true)).set_ 4 (.int .i64 ytm)
        replace bA := (bA.far (p := ⟨PK, 5, none⟩) hAP (.bool true)).far (p := ⟨PK, 4, none⟩) hAP (.int .i64 ytm)
        replace hM5 := (hM5.keep (Below.heap_setCell WF ⟨PK, 5, none⟩ (.bool true) _ (fun e => hPm e.symm))).keep (Below.heap_setCell _ ⟨PK, 4, none⟩ (.int .i64 ytm) _ (fun e => hPm e.symm))
        generalize (WF.setCell ⟨PK, 5, none⟩ (.bool true)).setCell ⟨PK, 4, none⟩ (.int .i64 ytm) = WG at *
        go_upto_region 10 with fail
        refine wp_region_Y (S := fun W' => Blk W' PK 100 #[.int .i64 xbk, .int .i64 xsl, .int .i64 xfr, .int .i64 xwh, .int .i64 ytm, .bool true] ∧ Blk W' A 54 #[.int .i64 yid, .int .i64 ytm, .int .i64 5, .int .i64 ybk, .int .i64 ybd, .int .i64 ym1, .int .i64 ym2, .int .i64 ysl]) 7 8 rfl (by kernel_rfl) ⟨bP.drewN 1, bA.drewN 1⟩ (fun hS => ?_)
        replace F0 := F0.d
        replace bP : Blk WG.drew PK 100 #[.int .i64 xbk, .int .i64 xsl, .int .i64 xfr, .int .i64 xwh, .int .i64 ytm, .bool true] := bP.drewN 1
        replace bA : Blk WG.drew A 54 #[.int .i64 yid, .int .i64 ytm, .int .i64 5, .int .i64 ybk, .int .i64 ybd, .int .i64 ym1, .int .i64 ym2, .int .i64 ysl] := bA.drewN 1
        replace hM5 := hM5.keepG ((G.rf WG).d)
        generalize WG.drew = WH at *
        refine wpAnyY_take (i := 0) (v := ?_) rfl (by kernel_rfl) (by kernel_rfl) (by kernel_rfl) (by kernel_rfl) (fun _ _ _ h => h) (Or.inl ⟨by kernel_rfl, ?_⟩) hS ?_
        rotate_left
        · intro w' hSw; go_simp; with_reducible rfl
        try simp only [Act.put, zzA, zzB, zzC, zzD, zzE, zzF]
        refine wpAnyY_take (i := 1) (v := ?_) rfl (by kernel_rfl) (by kernel_rfl) (by kernel_rfl) (by kernel_rfl) (fun _ _ _ h => h) (Or.inl ⟨by kernel_rfl, ?_⟩) hS ?_
        rotate_left
        · intro w' hSw; go_simp; with_reducible rfl
        try simp only [Act.put, zzA, zzB, zzC, zzD, zzE, zzF]
        refine wpAnyY_take (i := 2) (v := ?_) rfl (by kernel_rfl) (by kernel_rfl) (by kernel_rfl) (by kernel_rfl) (fun _ _ _ h => h) (Or.inl ⟨by kernel_rfl, ?_⟩) hS ?_
        rotate_left
        · intro w' hSw; go_simp; with_reducible rfl
        try simp only [Act.put, zzA, zzB, zzC, zzD, zzE, zzF]
        refine wpAnyY_take (i := 3) (v := ?_) rfl (by kernel_rfl) (by kernel_rfl) (by kernel_rfl) (by kernel_rfl) (fun _ _ _ h => h) (Or.inl ⟨by kernel_rfl, ?_⟩) hS ?_
        rotate_left
        · intro w' hSw; have m3 := hSw.1.cell 3; have lP := hSw.1.lt; go_simp; with_reducible rfl
        try simp only [Act.put, zzA, zzB, zzC, zzD, zzE, zzF]
        refine wpAnyY_take (i := 4) (v := ?_) rfl (by kernel_rfl) (by kernel_rfl) (by kernel_rfl) (by kernel_rfl) (fun _ _ _ h => h) (Or.inl ⟨by kernel_rfl, ?_⟩) hS ?_
        rotate_left
        · intro w' hSw; go_simp; with_reducible rfl
        try simp only [Act.put, zzA, zzB, zzC, zzD, zzE, zzF]
        refine wpAnyY_take (i := 5) (v := ?_) rfl (by kernel_rfl) (by kernel_rfl) (by kernel_rfl) (by kernel_rfl) (fun _ _ _ h => h) (Or.inl ⟨by kernel_rfl, ?_⟩) hS ?_
        rotate_left
        · intro w' hSw; have n1 := hSw.2.cell 1; have lA := hSw.2.lt; go_simp; with_reducible rfl
        try simp only [Act.put, zzA, zzB, zzC, zzD, zzE, zzF]
        refine wpAnyY_take (i := 6) (v := ?_) rfl (by kernel_rfl) (by kernel_rfl) (by kernel_rfl) (by kernel_rfl) (fun _ _ _ h => h) (Or.inl ⟨by kernel_rfl, ?_⟩) hS ?_
        rotate_left
        · intro w' hSw; go_simp; with_reducible rfl
        try simp only [Act.put, zzA, zzB, zzC, zzD, zzE, zzF]
        refine wpAnyY_oneW (i := 7) (by kernel_rfl) rfl (by kernel_rfl) (by kernel_rfl) (fun K7 hK7 => ?_)
        go_simp
        refine hK7.out _ _ ?_
        clear hK7
        try simp only [Act.put, zzA, zzB, zzC, zzD, zzE, zzF]
        refine wpAnyY_done (by kernel_rfl) ?_ _
        clear hS
        go_wp2_with fail
        first | exact ⟨rfl, bP, hM5, F0⟩ | (go_ret; exact ⟨rfl, bP, hM5, F0⟩)
  · by_cases hs : ysl = xsl
    · rw [show lookP ⟨xbk, xsl, xfr, xwh, xen, xbr⟩ ⟨yid, ytm, ykd, ybk, ybd, ym1, ym2, ysl⟩ = (⟨xbk, xsl, xfr, ytm, xen, xbr⟩, !xbr) from by unfold lookP; simp [hk, hs]]
      rw [show lookM ⟨yid, ytm, ykd, ybk, ybd, ym1, ym2, ysl⟩ xbk sd = sd from by unfold lookM; simp [hk]]
      dsimp only
      have hk5 : (ykd == 5) = false := by simpa using hk
      clear hk
      cases hs
      go_enter Tryz.func98, Tryz.ntmps98
      go_upto_region 4 with fail
      change Code.wp _ _ _ _ (w.alloc (.cells #[.int .i64 yid, .int .i64 ytm, .int .i64 ykd, .int .i64 ybk, .int .i64 ybd, .int .i64 ym1, .int .i64 ym2, .int .i64 xsl] 54))
      rw [← HA.out]
      generalize w.alloc (.cells #[.int .i64 yid, .int .i64 ytm, .int .i64 ykd, .int .i64 ybk, .int .i64 ybd, .int .i64 ym1, .int .i64 ym2, .int .i64 xsl] 54) = W5 at *
      have hM5 := hM
      clear hM bJ
      refine wp_region_Y (S := fun W' => Blk W' PK 100 #[.int .i64 xbk, .int .i64 xsl, .int .i64 xfr, .int .i64 xwh, .int .i64 xen, .bool xbr] ∧ Blk W' A 54 #[.int .i64 yid, .int .i64 ytm, .int .i64 ykd, .int .i64 ybk, .int .i64 ybd, .int .i64 ym1, .int .i64 ym2, .int .i64 xsl]) 6 7 rfl (by kernel_rfl) ⟨bP.drewN 1, bA.drewN 1⟩ (fun hS => ?_)
      replace F0 := F0.d
      replace bP : Blk W5.drew PK 100 #[.int .i64 xbk, .int .i64 xsl, .int .i64 xfr, .int .i64 xwh, .int .i64 xen, .bool xbr] := bP.drewN 1
      replace bA : Blk W5.drew A 54 #[.int .i64 yid, .int .i64 ytm, .int .i64 ykd, .int .i64 ybk, .int .i64 ybd, .int .i64 ym1, .int .i64 ym2, .int .i64 xsl] := bA.drewN 1
      replace hM5 := hM5.keepG ((G.rf W5).d)
      generalize W5.drew = W6 at *
      refine wpAnyY_take (i := 0) (v := ?_) rfl (by kernel_rfl) (by kernel_rfl) (by kernel_rfl) (by kernel_rfl) (fun _ _ _ h => h) (Or.inl ⟨by kernel_rfl, ?_⟩) hS ?_
      rotate_left
      · intro w' hSw; go_simp; with_reducible rfl
      try simp only [Act.put, zzA, zzB, zzC, zzD, zzE, zzF]
      refine wpAnyY_take (i := 1) (v := ?_) rfl (by kernel_rfl) (by kernel_rfl) (by kernel_rfl) (by kernel_rfl) (fun _ _ _ h => h) (Or.inl ⟨by kernel_rfl, ?_⟩) hS ?_
      rotate_left
      · intro w' hSw; have n7 := hSw.2.cell 7; have lA := hSw.2.lt; go_simp; with_reducible rfl
      try simp only [Act.put, zzA, zzB, zzC, zzD, zzE, zzF]
      refine wpAnyY_take (i := 2) (v := ?_) rfl (by kernel_rfl) (by kernel_rfl) (by kernel_rfl) (by kernel_rfl) (fun _ _ _ h => h) (Or.inl ⟨by kernel_rfl, ?_⟩) hS ?_
      rotate_left
      · intro w' hSw; go_simp; with_reducible rfl
      try simp only [Act.put, zzA, zzB, zzC, zzD, zzE, zzF]
      refine wpAnyY_take (i := 3) (v := ?_) rfl (by kernel_rfl) (by kernel_rfl) (by kernel_rfl) (by kernel_rfl) (fun _ _ _ h => h) (Or.inl ⟨by kernel_rfl, ?_⟩) hS ?_
      rotate_left
      · intro w' hSw; go_simp; with_reducible rfl
      try simp only [Act.put, zzA, zzB, zzC, zzD, zzE, zzF]
      refine wpAnyY_take (i := 4) (v := ?_) rfl (by kernel_rfl) (by kernel_rfl) (by kernel_rfl) (by kernel_rfl) (fun _ _ _ h => h) (Or.inl ⟨by kernel_rfl, ?_⟩) hS ?_
      rotate_left
      · intro w' hSw; go_simp; with_reducible rfl
      try simp only [Act.put, zzA, zzB, zzC, zzD, zzE, zzF]
      refine wpAnyY_take (i := 5) (v := ?_) rfl (by kernel_rfl) (by kernel_rfl) (by kernel_rfl) (by kernel_rfl) (fun _ _ _ h => h) (Or.inl ⟨by kernel_rfl, ?_⟩) hS ?_
      rotate_left
      · intro w' hSw; have m1 := hSw.1.cell 1; have lP := hSw.1.lt; go_simp; with_reducible rfl
      try simp only [Act.put, zzA, zzB, zzC, zzD, zzE, zzF]
      refine wpAnyY_oneW (i := 6) (by kernel_rfl) rfl (by kernel_rfl) (by kernel_rfl) (fun K6 hK6 => ?_)
      go_simp
      refine hK6.out _ _ ?_
      clear hK6
      try simp only [Act.put, zzA, zzB, zzC, zzD, zzE, zzF]
      refine wpAnyY_done (by kernel_rfl) ?_ _
      clear hS
      have lP := bP.lt
      have lA := bA.lt
      have m3 := bP.cell 3
      have m5 := bP.cell 5
      have z3 := bP.frozen 3
      have n1 := bA.cell 1
      go_wp2_with fail
      first | exact ⟨rfl, bP.set_ 3 (.int .i64 ytm), hM5.keep (Below.heap_setCell _ _ _ _ (fun e => hPm e.symm)), F0.s (p := ⟨PK, 3, none⟩) (.inl (.inl rfl)) (.int .i64 ytm)⟩ | (go_ret; exact ⟨rfl, bP.set_ 3 (.int .i64 ytm), hM5.keep (Below.heap_setCell _ _ _ _ (fun e => hPm e.symm)), F0.s (p := ⟨PK, 3, none⟩) (.inl (.inl rfl)) (.int .i64 ytm)⟩)
    · by_cases hx : xbr = true
      · rw [show lookP ⟨xbk, xsl, xfr, xwh, xen, xbr⟩ ⟨yid, ytm, ykd, ybk, ybd, ym1, ym2, ysl⟩ = (⟨xbk, xsl, xfr, xwh, xen, true⟩, true) from by unfold lookP; simp [hk, hs, hx]]
        rw [show lookM ⟨yid, ytm, ykd, ybk, ybd, ym1, ym2, ysl⟩ xbk sd = sd from by unfold lookM; simp [hk]]
        dsimp only
        have hk5 : (ykd == 5) = false := by simpa using hk
        clear hk
        have hs5 : (ysl == xsl) = false := by simpa using hs
        clear hs
        subst hx
        go_enter Tryz.func98, Tryz.ntmps98
        go_upto_region 4 with fail
        change Code.wp _ _ _ _ (w.alloc (.cells #[.int .i64 yid, .int .i64 ytm, .int .i64 ykd, .int .i64 ybk, .int .i64 ybd, .int .i64 ym1, .int .i64 ym2, .int .i64 ysl] 54))
        rw [← HA.out]
        generalize w.alloc (.cells #[.int .i64 yid, .int .i64 ytm, .int .i64 ykd, .int .i64 ybk, .int .i64 ybd, .int .i64 ym1, .int .i64 ym2, .int .i64 ysl] 54) = W5 at *
        have hM5 := hM
        clear hM bJ
        refine wp_region_Y (S := fun W' => Blk W' PK 100 #[.int .i64 xbk, .int .i64 xsl, .int .i64 xfr, .int .i64 xwh, .int .i64 xen, .bool true] ∧ Blk W' A 54 #[.int .i64 yid, .int .i64 ytm, .int .i64 ykd, .int .i64 ybk, .int .i64 ybd, .int .i64 ym1, .int .i64 ym2, .int .i64 ysl]) 6 7 rfl (by kernel_rfl) ⟨bP.drewN 1, bA.drewN 1⟩ (fun hS => ?_)
        replace F0 := F0.d
        replace bP : Blk W5.drew PK 100 #[.int .i64 xbk, .int .i64 xsl, .int .i64 xfr, .int .i64 xwh, .int .i64 xen, .bool true] := bP.drewN 1
        replace bA : Blk W5.drew A 54 #[.int .i64 yid, .int .i64 ytm, .int .i64 ykd, .int .i64 ybk, .int .i64 ybd, .int .i64 ym1, .int .i64 ym2, .int .i64 ysl] := bA.drewN 1
        replace hM5 := hM5.keepG ((G.rf W5).d)
        generalize W5.drew = W6 at *
        refine wpAnyY_take (i := 0) (v := ?_) rfl (by kernel_rfl) (by kernel_rfl) (by kernel_rfl) (by kernel_rfl) (fun _ _ _ h => h) (Or.inl ⟨by kernel_rfl, ?_⟩) hS ?_
        rotate_left
        · intro w' hSw; go_simp; with_reducible rfl
        try simp only [Act.put, zzA, zzB, zzC, zzD, zzE, zzF]
        refine wpAnyY_take (i := 1) (v := ?_) rfl (by kernel_rfl) (by kernel_rfl) (by kernel_rfl) (by kernel_rfl) (fun _ _ _ h => h) (Or.inl ⟨by kernel_rfl, ?_⟩) hS ?_
        rotate_left
        · intro w' hSw; have n7 := hSw.2.cell 7; have lA := hSw.2.lt; go_simp; with_reducible rfl
        try simp only [Act.put, zzA, zzB, zzC, zzD, zzE, zzF]
        refine wpAnyY_take (i := 2) (v := ?_) rfl (by kernel_rfl) (by kernel_rfl) (by kernel_rfl) (by kernel_rfl) (fun _ _ _ h => h) (Or.inl ⟨by kernel_rfl, ?_⟩) hS ?_
        rotate_left
        · intro w' hSw; go_simp; with_reducible rfl
        try simp only [Act.put, zzA, zzB, zzC, zzD, zzE, zzF]
        refine wpAnyY_take (i := 3) (v := ?_) rfl (by kernel_rfl) (by kernel_rfl) (by kernel_rfl) (by kernel_rfl) (fun _ _ _ h => h) (Or.inl ⟨by kernel_rfl, ?_⟩) hS ?_
        rotate_left
        · intro w' hSw; go_simp; with_reducible rfl
        try simp only [Act.put, zzA, zzB, zzC, zzD, zzE, zzF]
        refine wpAnyY_take (i := 4) (v := ?_) rfl (by kernel_rfl) (by kernel_rfl) (by kernel_rfl) (by kernel_rfl) (fun _ _ _ h => h) (Or.inl ⟨by kernel_rfl, ?_⟩) hS ?_
        rotate_left
        · intro w' hSw; go_simp; with_reducible rfl
        try simp only [Act.put, zzA, zzB, zzC, zzD, zzE, zzF]
        refine wpAnyY_take (i := 5) (v := ?_) rfl (by kernel_rfl) (by kernel_rfl) (by kernel_rfl) (by kernel_rfl) (fun _ _ _ h => h) (Or.inl ⟨by kernel_rfl, ?_⟩) hS ?_
        rotate_left
        · intro w' hSw; have m1 := hSw.1.cell 1; have lP := hSw.1.lt; go_simp; with_reducible rfl
        try simp only [Act.put, zzA, zzB, zzC, zzD, zzE, zzF]
        refine wpAnyY_oneW (i := 6) (by kernel_rfl) rfl (by kernel_rfl) (by kernel_rfl) (fun K6 hK6 => ?_)
        go_simp
        refine hK6.out _ _ ?_
        clear hK6
        try simp only [Act.put, zzA, zzB, zzC, zzD, zzE, zzF]
        refine wpAnyY_done (by kernel_rfl) ?_ _
        clear hS
        have lP := bP.lt
        have lA := bA.lt
        have m5 := bP.cell 5
        go_wp2_with fail
        first | exact ⟨rfl, bP, hM5, F0⟩ | (go_ret; exact ⟨rfl, bP, hM5, F0⟩)
      · replace hx : xbr = false := by simpa using hx
        rw [show lookP ⟨xbk, xsl, xfr, xwh, xen, xbr⟩ ⟨yid, ytm, ykd, ybk, ybd, ym1, ym2, ysl⟩ = (⟨xbk, xsl, xfr, xwh, ytm, true⟩, decide (xwh < ytm)) from by unfold lookP; simp [hk, hs, hx]]
        rw [show lookM ⟨yid, ytm, ykd, ybk, ybd, ym1, ym2, ysl⟩ xbk sd = sd from by unfold lookM; simp [hk]]
        dsimp only
        have hk5 : (ykd == 5) = false := by simpa using hk
        clear hk
        have hs5 : (ysl == xsl) = false := by simpa using hs
        clear hs
        subst hx
        go_enter Tryz.func98, Tryz.ntmps98
        go_upto_region 4 with fail
        change Code.wp _ _ _ _ (w.alloc (.cells #[.int .i64 yid, .int .i64 ytm, .int .i64 ykd, .int .i64 ybk, .int .i64 ybd, .int .i64 ym1, .int .i64 ym2, .int .i64 ysl] 54))
        rw [← HA.out]
        generalize w.alloc (.cells #[.int .i64 yid, .int .i64 ytm, .int .i64 ykd, .int .i64 ybk, .int .i64 ybd, .int .i64 ym1, .int .i64 ym2, .int .i64 ysl] 54) = W5 at *
        have hM5 := hM
        clear hM bJ
        refine wp_region_Y (S := fun W' => Blk W' PK 100 #[.int .i64 xbk, .int .i64 xsl, .int .i64 xfr, .int .i64 xwh, .int .i64 xen, .bool false] ∧ Blk W' A 54 #[.int .i64 yid, .int .i64 ytm, .int .i64 ykd, .int .i64 ybk, .int .i64 ybd, .int .i64 ym1, .int .i64 ym2, .int .i64 ysl]) 6 7 rfl (by kernel_rfl) ⟨bP.drewN 1, bA.drewN 1⟩ (fun hS => ?_)
        replace F0 := F0.d
        replace bP : Blk W5.drew PK 100 #[.int .i64 xbk, .int .i64 xsl, .int .i64 xfr, .int .i64 xwh, .int .i64 xen, .bool false] := bP.drewN 1
        replace bA : Blk W5.drew A 54 #[.int .i64 yid, .int .i64 ytm, .int .i64 ykd, .int .i64 ybk, .int .i64 ybd, .int .i64 ym1, .int .i64 ym2, .int .i64 ysl] := bA.drewN 1
        replace hM5 := hM5.keepG ((G.rf W5).d)
        generalize W5.drew = W6 at *
        refine wpAnyY_take (i := 0) (v := ?_) rfl (by kernel_rfl) (by kernel_rfl) (by kernel_rfl) (by kernel_rfl) (fun _ _ _ h => h) (Or.inl ⟨by kernel_rfl, ?_⟩) hS ?_
        rotate_left
        · intro w' hSw; go_simp; with_reducible rfl
        try simp only [Act.put, zzA, zzB, zzC, zzD, zzE, zzF]
        refine wpAnyY_take (i := 1) (v := ?_) rfl (by kernel_rfl) (by kernel_rfl) (by kernel_rfl) (by kernel_rfl) (fun _ _ _ h => h) (Or.inl ⟨by kernel_rfl, ?_⟩) hS ?_
        rotate_left
        · intro w' hSw; have n7 := hSw.2.cell 7; have lA := hSw.2.lt; go_simp; with_reducible rfl
        try simp only [Act.put, zzA, zzB, zzC, zzD, zzE, zzF]
        refine wpAnyY_take (i := 2) (v := ?_) rfl (by kernel_rfl) (by kernel_rfl) (by kernel_rfl) (by kernel_rfl) (fun _ _ _ h => h) (Or.inl ⟨by kernel_rfl, ?_⟩) hS ?_
        rotate_left
        · intro w' hSw; go_simp; with_reducible rfl
        try simp only [Act.put, zzA, zzB, zzC, zzD, zzE, zzF]
        refine wpAnyY_take (i := 3) (v := ?_) rfl (by kernel_rfl) (by kernel_rfl) (by kernel_rfl) (by kernel_rfl) (fun _ _ _ h => h) (Or.inl ⟨by kernel_rfl, ?_⟩) hS ?_
        rotate_left
        · intro w' hSw; go_simp; with_reducible rfl
        try simp only [Act.put, zzA, zzB, zzC, zzD, zzE, zzF]
        refine wpAnyY_take (i := 4) (v := ?_) rfl (by kernel_rfl) (by kernel_rfl) (by kernel_rfl) (by kernel_rfl) (fun _ _ _ h => h) (Or.inl ⟨by kernel_rfl, ?_⟩) hS ?_
        rotate_left
        · intro w' hSw; go_simp; with_reducible rfl
        try simp only [Act.put, zzA, zzB, zzC, zzD, zzE, zzF]
        refine wpAnyY_take (i := 5) (v := ?_) rfl (by kernel_rfl) (by kernel_rfl) (by kernel_rfl) (by kernel_rfl) (fun _ _ _ h => h) (Or.inl ⟨by kernel_rfl, ?_⟩) hS ?_
        rotate_left
        · intro w' hSw; have m1 := hSw.1.cell 1; have lP := hSw.1.lt; go_simp; with_reducible rfl
        try simp only [Act.put, zzA, zzB, zzC, zzD, zzE, zzF]
        refine wpAnyY_oneW (i := 6) (by kernel_rfl) rfl (by kernel_rfl) (by kernel_rfl) (fun K6 hK6 => ?_)
        go_simp
        refine hK6.out _ _ ?_
        clear hK6
        try simp only [Act.put, zzA, zzB, zzC, zzD, zzE, zzF]
        refine wpAnyY_done (by kernel_rfl) ?_ _
        clear hS
        have lP := bP.lt
        have lA := bA.lt
        have m5 := bP.cell 5
        go_upto_region 9 with fail
        clear lP lA m5
        refine wp_region_Y (S := fun W' => Blk W' A 54 #[.int .i64 yid, .int .i64 ytm, .int .i64 ykd, .int .i64 ybk, .int .i64 ybd, .int .i64 ym1, .int .i64 ym2, .int .i64 ysl]) 9 10 rfl (by kernel_rfl) (bA.drewN 1) (fun hS => ?_)
        replace F0 := F0.d
        replace bP : Blk W6.drew PK 100 #[.int .i64 xbk, .int .i64 xsl, .int .i64 xfr, .int .i64 xwh, .int .i64 xen, .bool false] := bP.drewN 1
        replace bA : Blk W6.drew A 54 #[.int .i64 yid, .int .i64 ytm, .int .i64 ykd, .int .i64 ybk, .int .i64 ybd, .int .i64 ym1, .int .i64 ym2, .int .i64 ysl] := bA.drewN 1
        replace hM5 := hM5.keepG ((G.rf W6).d)
        generalize W6.drew = WF at *
        refine wpAnyY_take (i := 0) (v := ?_) rfl (by kernel_rfl) (by kernel_rfl) (by kernel_rfl) (by kernel_rfl) (fun _ _ _ h => h) (Or.inl ⟨by kernel_rfl, ?_⟩) hS ?_
        rotate_left
        · intro w' hSw; go_simp; with_reducible rfl
        try simp only [Act.put, zzA, zzB, zzC, zzD, zzE, zzF]
        refine wpAnyY_take (i := 1) (v := ?_) rfl (by kernel_rfl) (by kernel_rfl) (by kernel_rfl) (by kernel_rfl) (fun _ _ _ h => h) (Or.inl ⟨by kernel_rfl, ?_⟩) hS ?_
        rotate_left
        · intro w' hSw; go_simp; with_reducible rfl
        try simp only [Act.put, zzA, zzB, zzC, zzD, zzE, zzF]
        refine wpAnyY_take (i := 2) (v := ?_) rfl (by kernel_rfl) (by kernel_rfl) (by kernel_rfl) (by kernel_rfl) (fun _ _ _ h => h) (Or.inl ⟨by kernel_rfl, ?_⟩) hS ?_
        rotate_left
        · intro w' hSw; go_simp; with_reducible rfl
        try simp only [Act.put, zzA, zzB, zzC, zzD, zzE, zzF]
        refine wpAnyY_take (i := 3) (v := ?_) rfl (by kernel_rfl) (by kernel_rfl) (by kernel_rfl) (by kernel_rfl) (fun _ _ _ h => h) (Or.inl ⟨by kernel_rfl, ?_⟩) hS ?_
        rotate_left
        · intro w' hSw; have n1 := hSw.cell 1; have lA := hSw.lt; go_simp; with_reducible rfl
        try simp only [Act.put, zzA, zzB, zzC, zzD, zzE, zzF]
        refine wpAnyY_take (i := 4) (v := ?_) rfl (by kernel_rfl) (by kernel_rfl) (by kernel_rfl) (by kernel_rfl) (fun _ _ _ h => h) (Or.inl ⟨by kernel_rfl, ?_⟩) hS ?_
        rotate_left
        · intro w' hSw; go_simp; with_reducible rfl
        try simp only [Act.put, zzA, zzB, zzC, zzD, zzE, zzF]
        refine wpAnyY_take (i := 5) (v := ?_) rfl (by kernel_rfl) (by kernel_rfl) (by kernel_rfl) (by kernel_rfl) (fun _ _ _ h => h) (Or.inl ⟨by kernel_rfl, ?_⟩) hS ?_
        rotate_left
        · intro w' hSw; go_simp; with_reducible rfl
        try simp only [Act.put, zzA, zzB, zzC, zzD, zzE, zzF]
        have m5 := bP.cell 5
        have z5 := bP.frozen 5
        have m4 := bP.cell 4
        have z4 := bP.frozen 4
        have lP := bP.lt
        refine wpAnyY_oneSW (i := 6) (by kernel_rfl) rfl (by kernel_rfl) (fun K6 hK6 => ?_)
        go_simp
        refine hK6.out _ _ (bA.far (p := ⟨PK, 5, none⟩) hAP _) (fun hS => ?_)
        clear hK6
        try simp only [Act.put, zzA, zzB, zzC, zzD, zzE, zzF]
        refine wpAnyY_take (i := 7) (v := ?_) rfl (by kernel_rfl) (by kernel_rfl) (by kernel_rfl) (by kernel_rfl) (fun _ _ _ h => h) (Or.inl ⟨by kernel_rfl, ?_⟩) hS ?_
        rotate_left
        · intro w' hSw; go_simp; with_reducible rfl
        try simp only [Act.put, zzA, zzB, zzC, zzD, zzE, zzF]
        refine wpAnyY_take (i := 8) (v := ?_) rfl (by kernel_rfl) (by kernel_rfl) (by kernel_rfl) (by kernel_rfl) (fun _ _ _ h => h) (Or.inl ⟨by kernel_rfl, ?_⟩) hS ?_
        rotate_left
        · intro w' hSw; go_simp; with_reducible rfl
        try simp only [Act.put, zzA, zzB, zzC, zzD, zzE, zzF]
        refine wpAnyY_oneW (i := 9) (by kernel_rfl) rfl (by kernel_rfl) (by kernel_rfl) (fun K9 hK9 => ?_)
        go_simp
        refine hK9.out _ _ ?_
        clear hK9
        try simp only [Act.put, zzA, zzB, zzC, zzD, zzE, zzF]
        refine wpAnyY_done (by kernel_rfl) ?_ _
        clear hS m5 z5 m4 z4 lP
        replace F0 := (F0.s (p := ⟨PK, 5, none⟩) (.inl (.inl rfl)) (.bool true)).s (p := ⟨PK, 4, none⟩) (.inl (.inl rfl)) (.int .i64 ytm)
        replace bP : Blk ((WF.setCell ⟨PK, 5, none⟩ (.bool true)).setCell ⟨PK, 4, none⟩ (.int .i64 ytm)) PK 100 #[.int .i64 xbk, .int .i64 xsl, .int .i64 xfr, .int .i64 xwh, .int .i64 ytm, .bool true] := (bP.set_ 5 (.bool true)).set_ 4 (.int .i64 ytm)
        replace bA := (bA.far (p := ⟨PK, 5, none⟩) hAP (.bool true)).far (p := ⟨PK, 4, none⟩) hAP (.int .i64 ytm)
        replace hM5 := (hM5.keep (Below.heap_setCell WF ⟨PK, 5, none⟩ (.bool true) _ (fun e => hPm e.symm))).keep (Below.heap_setCell _ ⟨PK, 4, none⟩ (.int .i64 ytm) _ (fun e => hPm e.symm))
        generalize (WF.setCell ⟨PK, 5, none⟩ (.bool true)).setCell ⟨PK, 4, none⟩ (.int .i64 ytm) = WG at *
        go_upto_region 10 with fail
        refine wp_region_Y (S := fun W' => Blk W' PK 100 #[.int .i64 xbk, .int .i64 xsl, .int .i64 xfr, .int .i64 xwh, .int .i64 ytm, .bool true] ∧ Blk W' A 54 #[.int .i64 yid, .int .i64 ytm, .int .i64 ykd, .int .i64 ybk, .int .i64 ybd, .int .i64 ym1, .int .i64 ym2, .int .i64 ysl]) 7 8 rfl (by kernel_rfl) ⟨bP.drewN 1, bA.drewN 1⟩ (fun hS => ?_)
        replace F0 := F0.d
        replace bP : Blk WG.drew PK 100 #[.int .i64 xbk, .int .i64 xsl, .int .i64 xfr, .int .i64 xwh, .int .i64 ytm, .bool true] := bP.drewN 1
        replace bA : Blk WG.drew A 54 #[.int .i64 yid, .int .i64 ytm, .int .i64 ykd, .int .i64 ybk, .int .i64 ybd, .int .i64 ym1, .int .i64 ym2, .int .i64 ysl] := bA.drewN 1
        replace hM5 := hM5.keepG ((G.rf WG).d)
        generalize WG.drew = WH at *
        refine wpAnyY_take (i := 0) (v := ?_) rfl (by kernel_rfl) (by kernel_rfl) (by kernel_rfl) (by kernel_rfl) (fun _ _ _ h => h) (Or.inl ⟨by kernel_rfl, ?_⟩) hS ?_
        rotate_left
        · intro w' hSw; go_simp; with_reducible rfl
        try simp only [Act.put, zzA, zzB, zzC, zzD, zzE, zzF]
        refine wpAnyY_take (i := 1) (v := ?_) rfl (by kernel_rfl) (by kernel_rfl) (by kernel_rfl) (by kernel_rfl) (fun _ _ _ h => h) (Or.inl ⟨by kernel_rfl, ?_⟩) hS ?_
        rotate_left
        · intro w' hSw; go_simp; with_reducible rfl
        try simp only [Act.put, zzA, zzB, zzC, zzD, zzE, zzF]
        refine wpAnyY_take (i := 2) (v := ?_) rfl (by kernel_rfl) (by kernel_rfl) (by kernel_rfl) (by kernel_rfl) (fun _ _ _ h => h) (Or.inl ⟨by kernel_rfl, ?_⟩) hS ?_
        rotate_left
        · intro w' hSw; go_simp; with_reducible rfl
        try simp only [Act.put, zzA, zzB, zzC, zzD, zzE, zzF]
        refine wpAnyY_take (i := 3) (v := ?_) rfl (by kernel_rfl) (by kernel_rfl) (by kernel_rfl) (by kernel_rfl) (fun _ _ _ h => h) (Or.inl ⟨by kernel_rfl, ?_⟩) hS ?_
        rotate_left
        · intro w' hSw; have m3 := hSw.1.cell 3; have lP := hSw.1.lt; go_simp; with_reducible rfl
        try simp only [Act.put, zzA, zzB, zzC, zzD, zzE, zzF]
        refine wpAnyY_take (i := 4) (v := ?_) rfl (by kernel_rfl) (by kernel_rfl) (by kernel_rfl) (by kernel_rfl) (fun _ _ _ h => h) (Or.inl ⟨by kernel_rfl, ?_⟩) hS ?_
        rotate_left
        · intro w' hSw; go_simp; with_reducible rfl
        try simp only [Act.put, zzA, zzB, zzC, zzD, zzE, zzF]
        refine wpAnyY_take (i := 5) (v := ?_) rfl (by kernel_rfl) (by kernel_rfl) (by kernel_rfl) (by kernel_rfl) (fun _ _ _ h => h) (Or.inl ⟨by kernel_rfl, ?_⟩) hS ?_
        rotate_left
        · intro w' hSw; have n1 := hSw.2.cell 1; have lA := hSw.2.lt; go_simp; with_reducible rfl
        try simp only [Act.put, zzA, zzB, zzC, zzD, zzE, zzF]
        refine wpAnyY_take (i := 6) (v := ?_) rfl (by kernel_rfl) (by kernel_rfl) (by kernel_rfl) (by kernel_rfl) (fun _ _ _ h => h) (Or.inl ⟨by kernel_rfl, ?_⟩) hS ?_
        rotate_left
        · intro w' hSw; go_simp; with_reducible rfl
        try simp only [Act.put, zzA, zzB, zzC, zzD, zzE, zzF]
        refine wpAnyY_oneW (i := 7) (by kernel_rfl) rfl (by kernel_rfl) (by kernel_rfl) (fun K7 hK7 => ?_)
        go_simp
        refine hK7.out _ _ ?_
        clear hK7
        try simp only [Act.put, zzA, zzB, zzC, zzD, zzE, zzF]
        refine wpAnyY_done (by kernel_rfl) ?_ _
        clear hS
        go_wp2_with fail
        first | exact ⟨rfl, bP, hM5, F0⟩ | (go_ret; exact ⟨rfl, bP, hM5, F0⟩)
end Go.Proofs.YtabnpimidhlbiaaGreat

set_option linter.unusedSimpArgs false
set_option linter.unusedVariables false
namespace Go.Proofs.YtabnpimidhlbiaaGreat
open Go.RowKit Go.Shelf
attribute [local go_sem] Oper.semAt_some
theorem info91 : (Tryz.prog.info? 91).map (fun i => (i.zero, i.size, i.bytes)) = some (some (.pointer none), 1, 8) := by kernel_rfl
theorem own_blk_ne {W : World} {b s n : Nat} {e : TypeId} {v : Value} {xs : List Value} {g : Nat} {t : TypeId} {cs : Array Value} (h : W.ownsRow b e s v n xs) (hb : Blk W g t cs) (hne : t ≠ e) : some g ≠ v.ownBlock := by
  rcases h.2 with ⟨rfl, _⟩ | ⟨g', cap, cur, rfl, _, hg, _⟩
  · exact fun e => by cases e
  · exact fun e1 => by
      have e2 : g = g' := by injection e1
      subst e2
      have e3 := (show W.heap[g]? = _ from hb).symm.trans hg
      simp at e3
      exact hne e3.2
/-- the cells of a row of pointers -/
def ptrs (P : Nat → Nat) (n : Nat) : List Value := (List.range n).map fun i => .pointer (some ⟨P i, 0, none⟩)
theorem ptrs_succ (P : Nat → Nat) (n : Nat) : ptrs P (n + 1) = ptrs P n ++ [.pointer (some ⟨P n, 0, none⟩)] := by simp [ptrs, List.range_succ]
theorem ptrs_congr {P Q : Nat → Nat} {n : Nat} (h : ∀ i, i < n → P i = Q i) : ptrs P n = ptrs Q n := by
  unfold ptrs
  exact List.map_congr_left fun i hi => by rw [h i (List.mem_range.1 hi)]
/-- the post of a sealing -/
def SealPost (w : World) (J m N : Nat) (base : Nat) (sd : Int → Option Nat) (x0 x1 x2 x3 vp vq : Value) (E : Int) (n : Nat) (xs : List Value) (a : Ac) (e : Ending) (w' : World) : Prop :=
  ∃ (v : Value) (PK : Nat) (vq' : Value), e = .returned v ∧ w.heap.size ≤ PK ∧ Blk w' PK 100 #[.int .i64 a.bk, .int .i64 a.sl, .int .i64 a.tm, .int .i64 a.tm, .int .i64 E, .bool false] ∧ Blk w' J 79 #[x0, x1, x2, x3, .int .i64 E, vp, vq', .map (some m)] ∧ w'.ownsRow base 91 1 vq' (n + 1) (xs ++ [.pointer (some ⟨PK, 0, none⟩)]) ∧ SdM w' m (N + 1) (fun b => if b = a.bk then some PK else sd b) ∧ Fr (fun i => i = J ∨ i = m ∨ vq.ownBlock = some i) w w'
set_option maxRecDepth 100000 in
set_option maxHeartbeats 8000000 in
theorem seal_any (a : Ac) (J m N base : Nat) (sd : Int → Option Nat) (x0 x1 x2 x3 vp vq : Value) (E : Int) (n : Nat) (xs : List Value) (w : World) (hJ : Blk w J 79 #[x0, x1, x2, x3, .int .i64 E, vp, vq, .map (some m)]) (hq : w.ownsRow base 91 1 vq n xs) (hm : SdM w m N sd) (hb : -1000000000000 ≤ a.bk ∧ a.bk ≤ 1000000000000) (hN : N ≤ 1000) (hn : n ≤ 1000) (hB : base ≤ w.heap.size) :
    Calls Tryz.prog 97 #[.pointer (some ⟨J, 0, none⟩), .agg a.v] w (SealPost w J m N base sd x0 x1 x2 x3 vp vq E n xs a) := by
  have hJm : J ≠ m := hm.ne hJ
  have HB := Lib.hid hb
  have HPP : Hid (∀ w' v PK vq', w.heap.size ≤ PK → Blk w' PK 100 #[.int .i64 a.bk, .int .i64 a.sl, .int .i64 a.tm, .int .i64 a.tm, .int .i64 E, .bool false] → Blk w' J 79 #[x0, x1, x2, x3, .int .i64 E, vp, vq', .map (some m)] → w'.ownsRow base 91 1 vq' (n + 1) (xs ++ [.pointer (some ⟨PK, 0, none⟩)]) → SdM w' m (N + 1) (fun b => if b = a.bk then some PK else sd b) → Fr (fun i => i = J ∨ i = m ∨ vq.ownBlock = some i) w w' → SealPost w J m N base sd x0 x1 x2 x3 vp vq E n xs a (.returned v) w') := fun w' v PK vq' h1 h2 h3 h4 h5 h6 => ⟨v, PK, vq', rfl, h1, h2, h3, h4, h5, h6⟩
  generalize SealPost w J m N base sd x0 x1 x2 x3 vp vq E n xs a = PP at *
  clear hb
  obtain ⟨i0, hi0, hz0, hz1, hz2⟩ := info_parts info91
  obtain ⟨yid, ytm, ykd, ybk, ybd, ym1, ym2, ysl⟩ := a
  unfold Ac.v at *
  dsimp only at *
  have g0 : G w (w.alloc (.cells #[.int .i64 yid, .int .i64 ytm, .int .i64 ykd, .int .i64 ybk, .int .i64 ybd, .int .i64 ym1, .int .i64 ym2, .int .i64 ysl] 54)) := (G.rf _).a _
  have bA : Blk (w.alloc (.cells #[.int .i64 yid, .int .i64 ytm, .int .i64 ykd, .int .i64 ybk, .int .i64 ybd, .int .i64 ym1, .int .i64 ym2, .int .i64 ysl] 54)) w.heap.size 54 #[.int .i64 yid, .int .i64 ytm, .int .i64 ykd, .int .i64 ybk, .int .i64 ybd, .int .i64 ym1, .int .i64 ym2, .int .i64 ysl] := Blk.new _ _ _
  have bJ := hJ.keep g0
  have hM := hm.keepG g0
  have hQ := Lib.hid (own_G hq g0)
  have lJ := hJ.lt
  have lm := hm.lt
  have HsJ : Hid (some J ≠ vq.ownBlock) := own_blk_ne hq hJ (by decide)
  obtain ⟨A, hA⟩ : ∃ A, A = w.heap.size := ⟨_, rfl⟩
  have hAJ : A ≠ J := by omega
  have hAm : A ≠ m := by omega
  have hAw : w.heap.size ≤ A := by omega
  have F0 : Fr (fun i => i = J ∨ i = m ∨ vq.ownBlock = some i) w (w.alloc (.cells #[.int .i64 yid, .int .i64 ytm, .int .i64 ykd, .int .i64 ybk, .int .i64 ybd, .int .i64 ym1, .int .i64 ym2, .int .i64 ysl] 54)) := g0.fr
  rw [← hA] at bA
  have HA := Lib.hid hA
  clear hA hJ hm g0 lJ lm hq
  go_enter Tryz.func97, Tryz.ntmps97
  go_upto_region 1 with fail
  change Code.wp _ _ _ _ (w.alloc (.cells #[.int .i64 yid, .int .i64 ytm, .int .i64 ykd, .int .i64 ybk, .int .i64 ybd, .int .i64 ym1, .int .i64 ym2, .int .i64 ysl] 54))
  rw [← HA.out]
  generalize hW1 : w.alloc (.cells #[.int .i64 yid, .int .i64 ytm, .int .i64 ykd, .int .i64 ybk, .int .i64 ybd, .int .i64 ym1, .int .i64 ym2, .int .i64 ysl] 54) = W1 at *
  have sz1 : w.heap.size ≤ W1.heap.size := by rw [← hW1]; simp
  clear hW1
  refine wp_region_Y (S := fun W' => Blk W' A 54 #[.int .i64 yid, .int .i64 ytm, .int .i64 ykd, .int .i64 ybk, .int .i64 ybd, .int .i64 ym1, .int .i64 ym2, .int .i64 ysl] ∧ Blk W' J 79 #[x0, x1, x2, x3, .int .i64 E, vp, vq, .map (some m)]) 15 16 rfl (by kernel_rfl) ⟨bA.drewN 1, bJ.drewN 1⟩ (fun hS => ?_)
  replace F0 := F0.d
  replace bA : Blk W1.drew A 54 #[.int .i64 yid, .int .i64 ytm, .int .i64 ykd, .int .i64 ybk, .int .i64 ybd, .int .i64 ym1, .int .i64 ym2, .int .i64 ysl] := bA.drewN 1
  replace bJ : Blk W1.drew J 79 #[x0, x1, x2, x3, .int .i64 E, vp, vq, .map (some m)] := bJ.drewN 1
  replace hM : SdM W1.drew m N sd := hM.keepG ((G.rf _).d)
  replace hQ := Lib.hid (own_G hQ.out ((G.rf W1).d))
  replace sz1 : w.heap.size ≤ W1.drew.heap.size := sz1
  generalize W1.drew = WD at *
  refine wpAnyY_take (i := 0) (v := ?_) rfl (by kernel_rfl) (by kernel_rfl) (by kernel_rfl) (by kernel_rfl) (fun _ _ _ h => h) (Or.inl ⟨by kernel_rfl, ?_⟩) hS ?_
  rotate_left
  · intro w' hSw; go_simp; with_reducible rfl
  try simp only [Act.put, zzA, zzB, zzC, zzD, zzE, zzF]
  refine wpAnyY_take (i := 1) (v := ?_) rfl (by kernel_rfl) (by kernel_rfl) (by kernel_rfl) (by kernel_rfl) (fun _ _ _ h => h) (Or.inl ⟨by kernel_rfl, ?_⟩) hS ?_
  rotate_left
  · intro w' hSw; have n1 := hSw.1.cell 1; have n3 := hSw.1.cell 3; have n7 := hSw.1.cell 7; have lA := hSw.1.lt; have j4 := hSw.2.cell 4; have lJ := hSw.2.lt; go_simp; with_reducible rfl
  try simp only [Act.put, zzA, zzB, zzC, zzD, zzE, zzF]
  refine wpAnyY_take (i := 2) (v := ?_) rfl (by kernel_rfl) (by kernel_rfl) (by kernel_rfl) (by kernel_rfl) (fun _ _ _ h => h) (Or.inl ⟨by kernel_rfl, ?_⟩) hS ?_
  rotate_left
  · intro w' hSw; go_simp; with_reducible rfl
  try simp only [Act.put, zzA, zzB, zzC, zzD, zzE, zzF]
  refine wpAnyY_take (i := 3) (v := ?_) rfl (by kernel_rfl) (by kernel_rfl) (by kernel_rfl) (by kernel_rfl) (fun _ _ _ h => h) (Or.inl ⟨by kernel_rfl, ?_⟩) hS ?_
  rotate_left
  · intro w' hSw; have n1 := hSw.1.cell 1; have n3 := hSw.1.cell 3; have n7 := hSw.1.cell 7; have lA := hSw.1.lt; have j4 := hSw.2.cell 4; have lJ := hSw.2.lt; go_simp; with_reducible rfl
  try simp only [Act.put, zzA, zzB, zzC, zzD, zzE, zzF]
  refine wpAnyY_take (i := 4) (v := ?_) rfl (by kernel_rfl) (by kernel_rfl) (by kernel_rfl) (by kernel_rfl) (fun _ _ _ h => h) (Or.inl ⟨by kernel_rfl, ?_⟩) hS ?_
  rotate_left
  · intro w' hSw; go_simp; with_reducible rfl
  try simp only [Act.put, zzA, zzB, zzC, zzD, zzE, zzF]
  refine wpAnyY_take (i := 5) (v := ?_) rfl (by kernel_rfl) (by kernel_rfl) (by kernel_rfl) (by kernel_rfl) (fun _ _ _ h => h) (Or.inl ⟨by kernel_rfl, ?_⟩) hS ?_
  rotate_left
  · intro w' hSw; have n1 := hSw.1.cell 1; have n3 := hSw.1.cell 3; have n7 := hSw.1.cell 7; have lA := hSw.1.lt; have j4 := hSw.2.cell 4; have lJ := hSw.2.lt; go_simp; with_reducible rfl
  try simp only [Act.put, zzA, zzB, zzC, zzD, zzE, zzF]
  refine wpAnyY_take (i := 6) (v := ?_) rfl (by kernel_rfl) (by kernel_rfl) (by kernel_rfl) (by kernel_rfl) (fun _ _ _ h => h) (Or.inl ⟨by kernel_rfl, ?_⟩) hS ?_
  rotate_left
  · intro w' hSw; go_simp; with_reducible rfl
  try simp only [Act.put, zzA, zzB, zzC, zzD, zzE, zzF]
  refine wpAnyY_take (i := 7) (v := ?_) rfl (by kernel_rfl) (by kernel_rfl) (by kernel_rfl) (by kernel_rfl) (fun _ _ _ h => h) (Or.inl ⟨by kernel_rfl, ?_⟩) hS ?_
  rotate_left
  · intro w' hSw; have n1 := hSw.1.cell 1; have n3 := hSw.1.cell 3; have n7 := hSw.1.cell 7; have lA := hSw.1.lt; have j4 := hSw.2.cell 4; have lJ := hSw.2.lt; go_simp; with_reducible rfl
  try simp only [Act.put, zzA, zzB, zzC, zzD, zzE, zzF]
  refine wpAnyY_take (i := 8) (v := ?_) rfl (by kernel_rfl) (by kernel_rfl) (by kernel_rfl) (by kernel_rfl) (fun _ _ _ h => h) (Or.inl ⟨by kernel_rfl, ?_⟩) hS ?_
  rotate_left
  · intro w' hSw; go_simp; with_reducible rfl
  try simp only [Act.put, zzA, zzB, zzC, zzD, zzE, zzF]
  refine wpAnyY_take (i := 9) (v := ?_) rfl (by kernel_rfl) (by kernel_rfl) (by kernel_rfl) (by kernel_rfl) (fun _ _ _ h => h) (Or.inl ⟨by kernel_rfl, ?_⟩) hS ?_
  rotate_left
  · intro w' hSw; go_simp; with_reducible rfl
  try simp only [Act.put, zzA, zzB, zzC, zzD, zzE, zzF]
  refine wpAnyY_take (i := 10) (v := ?_) rfl (by kernel_rfl) (by kernel_rfl) (by kernel_rfl) (by kernel_rfl) (fun _ _ _ h => h) (Or.inl ⟨by kernel_rfl, ?_⟩) hS ?_
  rotate_left
  · intro w' hSw; go_simp; with_reducible rfl
  try simp only [Act.put, zzA, zzB, zzC, zzD, zzE, zzF]
  refine wpAnyY_take (i := 11) (v := ?_) rfl (by kernel_rfl) (by kernel_rfl) (by kernel_rfl) (by kernel_rfl) (fun _ _ _ h => h) (Or.inl ⟨by kernel_rfl, ?_⟩) hS ?_
  rotate_left
  · intro w' hSw; go_simp; with_reducible rfl
  try simp only [Act.put, zzA, zzB, zzC, zzD, zzE, zzF]
  refine wpAnyY_take (i := 12) (v := ?_) rfl (by kernel_rfl) (by kernel_rfl) (by kernel_rfl) (by kernel_rfl) (fun _ _ _ h => h) (Or.inl ⟨by kernel_rfl, ?_⟩) hS ?_
  rotate_left
  · intro w' hSw; have n1 := hSw.1.cell 1; have n3 := hSw.1.cell 3; have n7 := hSw.1.cell 7; have lA := hSw.1.lt; have j4 := hSw.2.cell 4; have lJ := hSw.2.lt; go_simp; with_reducible rfl
  try simp only [Act.put, zzA, zzB, zzC, zzD, zzE, zzF]
  refine wpAnyY_take (i := 13) (v := ?_) rfl (by kernel_rfl) (by kernel_rfl) (by kernel_rfl) (by kernel_rfl) (fun _ _ _ h => h) (Or.inl ⟨by kernel_rfl, ?_⟩) hS ?_
  rotate_left
  · intro w' hSw; go_simp; with_reducible rfl
  try simp only [Act.put, zzA, zzB, zzC, zzD, zzE, zzF]
  refine wpAnyY_oneSW (i := 14) (by kernel_rfl) rfl (by kernel_rfl) (fun K14 hK14 => ?_)
  go_simp
  refine hK14.out _ _ ⟨bA.alloc _, bJ.alloc _⟩ (fun hS => ?_)
  clear hK14
  try simp only [Act.put, zzA, zzB, zzC, zzD, zzE, zzF]
  have bK := Blk.new WD 100 #[.int .i64 ybk, .int .i64 ysl, .int .i64 ytm, .int .i64 ytm, .int .i64 E, .bool false]
  replace bA := bA.alloc (.cells #[.int .i64 ybk, .int .i64 ysl, .int .i64 ytm, .int .i64 ytm, .int .i64 E, .bool false] 100)
  replace bJ := bJ.alloc (.cells #[.int .i64 ybk, .int .i64 ysl, .int .i64 ytm, .int .i64 ytm, .int .i64 E, .bool false] 100)
  replace hM := hM.keepG ((G.rf WD).a (.cells #[.int .i64 ybk, .int .i64 ysl, .int .i64 ytm, .int .i64 ytm, .int .i64 E, .bool false] 100))
  replace hQ := Lib.hid (own_G hQ.out ((G.rf WD).a (.cells #[.int .i64 ybk, .int .i64 ysl, .int .i64 ytm, .int .i64 ytm, .int .i64 E, .bool false] 100)))
  replace F0 := F0.a (.cells #[.int .i64 ybk, .int .i64 ysl, .int .i64 ytm, .int .i64 ytm, .int .i64 E, .bool false] 100)
  obtain ⟨PK, hPK⟩ : ∃ PK, PK = WD.heap.size := ⟨_, rfl⟩
  have hwP : w.heap.size ≤ PK := by omega
  rw [← hPK] at bK ⊢
  clear hPK sz1
  generalize WD.alloc (.cells #[.int .i64 ybk, .int .i64 ysl, .int .i64 ytm, .int .i64 ytm, .int .i64 E, .bool false] 100) = W2 at *
  refine wpAnyY_oneW (i := 15) (by kernel_rfl) rfl (by kernel_rfl) (by kernel_rfl) (fun K15 hK15 => ?_)
  go_simp
  refine hK15.out _ _ ?_
  clear hK15
  try simp only [Act.put, zzA, zzB, zzC, zzD, zzE, zzF]
  refine wpAnyY_done (by kernel_rfl) ?_ _
  clear hS
  have HP6 := Lib.hid (own_blk_ne hQ.out bK (by decide))
  have HA6 := Lib.hid (own_blk_ne hQ.out bA (by decide))
  have HM6 := Lib.hid (own_sdm hM hQ.out)
  have hPm : PK ≠ m := hM.ne bK
  have hPJ : PK ≠ J := fun e => by
    subst e
    have e3 := (show W2.heap[PK]? = _ from bK).symm.trans (show W2.heap[PK]? = _ from bJ)
    simp at e3
  have j6 := bJ.cell 6
  have lJ := bJ.lt
  go_wp2_with (at_builtin; refine wpList_append_own _ rfl _ _ 75 rfl base 91 i0 (.pointer none) 1 8 Tryz.underlying75 hi0 hz0 hz1 hz2 rfl (by decide) _ n xs rfl ?hown ⟨_, 0, none⟩ 1 1 [.pointer (some ⟨PK, 0, none⟩)] rfl rfl (cell_one_new _ _ _) (by simp [Value.oneCell']) (by unfold maxLen; omega) (by omega) ?hbase ?hrest)
  case hown => exact own_G hQ.out ((G.rf _).a _)
  case hbase => exact Nat.le_trans hB (Nat.le_trans F0.size (by simp))
  case hrest =>
    intro v9 w9 hown9 hg9 _
    obtain ⟨ra, rc, rfl⟩ := own_slice hown9
    have HN := Lib.hid hown9
    have F9 : Fr (fun i => i = J ∨ i = m ∨ vq.ownBlock = some i) w w9 := (F0.a _).grown hg9 (fun g e => .inl (.inr (.inr e)))
    have bA9 := (bA.alloc _).grown hg9 HA6.out
    have bK9 := (bK.alloc _).grown hg9 HP6.out
    have bJ9 := (bJ.alloc _).grown hg9 HsJ.out
    have hM9 := (hM.keepG ((G.rf W2).a _)).grown hg9 HM6.out
    clear hown9 hg9 bA bK bJ hM F0 j6 lJ hQ
    have HN6 := Lib.hid (own_blk_ne HN.out bJ9 (by decide))
    have HNm := Lib.hid (own_sdm hM9 HN.out)
    have j6 := bJ9.cell 6
    have z6 := bJ9.frozen 6
    have lJ := bJ9.lt
    go_upto_region 3 with fail
    clear j6 z6 lJ
    have F1 := F9.s (p := ⟨J, 6, none⟩) (.inl (.inl rfl)) (.slice ra (n + 1) rc)
    have bJ1 : Blk (w9.setCell ⟨J, 6, none⟩ (.slice ra (n + 1) rc)) J 79 #[x0, x1, x2, x3, .int .i64 E, vp, (.slice ra (n + 1) rc), .map (some m)] := bJ9.set_ 6 (.slice ra (n + 1) rc)
    have bA1 := bA9.far (p := ⟨J, 6, none⟩) hAJ (.slice ra (n + 1) rc)
    have bK1 := bK9.far (p := ⟨J, 6, none⟩) hPJ (.slice ra (n + 1) rc)
    have hM1 := hM9.keep (Below.heap_setCell w9 ⟨J, 6, none⟩ (.slice ra (n + 1) rc) m (fun e => hJm e.symm))
    have HO1 : Hid ((w9.setCell ⟨J, 6, none⟩ (.slice ra (n + 1) rc)).ownsRow base 91 1 (.slice ra (n + 1) rc) (n + 1) (xs ++ [.pointer (some ⟨PK, 0, none⟩)])) := own_Fr HN.out ((Fr.rf (fun i => i = J) w9).s (p := ⟨J, 6, none⟩) (.inl rfl) (.slice ra (n + 1) rc)) (fun g hg e => HN6.out (by rw [hg, e]))
    clear F9 bJ9 bA9 bK9 hM9 HN
    try change Code.wp _ _ _ _ (w9.setCell ⟨J, 6, none⟩ (.slice ra (n + 1) rc))
    generalize w9.setCell ⟨J, 6, none⟩ (.slice ra (n + 1) rc) = W3 at *
    refine wp_region_Y (S := fun W' => Blk W' A 54 #[.int .i64 yid, .int .i64 ytm, .int .i64 ykd, .int .i64 ybk, .int .i64 ybd, .int .i64 ym1, .int .i64 ym2, .int .i64 ysl] ∧ Blk W' J 79 #[x0, x1, x2, x3, .int .i64 E, vp, (.slice ra (n + 1) rc), .map (some m)]) 7 8 rfl (by kernel_rfl) ⟨bA1.drewN 1, bJ1.drewN 1⟩ (fun hS => ?_)
    replace F1 := F1.d
    replace bK1 : Blk W3.drew PK 100 #[.int .i64 ybk, .int .i64 ysl, .int .i64 ytm, .int .i64 ytm, .int .i64 E, .bool false] := bK1.drewN 1
    replace bJ1 : Blk W3.drew J 79 #[x0, x1, x2, x3, .int .i64 E, vp, (.slice ra (n + 1) rc), .map (some m)] := bJ1.drewN 1
    replace hM1 := hM1.keepG ((G.rf W3).d)
    replace HO1 := Lib.hid (own_G HO1.out ((G.rf W3).d))
    generalize W3.drew = WE at *
    refine wpAnyY_take (i := 0) (v := ?_) rfl (by kernel_rfl) (by kernel_rfl) (by kernel_rfl) (by kernel_rfl) (fun _ _ _ h => h) (Or.inl ⟨by kernel_rfl, ?_⟩) hS ?_
    rotate_left
    · intro w' hSw; go_simp; with_reducible rfl
    try simp only [Act.put, zzA, zzB, zzC, zzD, zzE, zzF]
    refine wpAnyY_take (i := 1) (v := ?_) rfl (by kernel_rfl) (by kernel_rfl) (by kernel_rfl) (by kernel_rfl) (fun _ _ _ h => h) (Or.inl ⟨by kernel_rfl, ?_⟩) hS ?_
    rotate_left
    · intro w' hSw; go_simp; with_reducible rfl
    try simp only [Act.put, zzA, zzB, zzC, zzD, zzE, zzF]
    refine wpAnyY_take (i := 2) (v := ?_) rfl (by kernel_rfl) (by kernel_rfl) (by kernel_rfl) (by kernel_rfl) (fun _ _ _ h => h) (Or.inl ⟨by kernel_rfl, ?_⟩) hS ?_
    rotate_left
    · intro w' hSw; go_simp; with_reducible rfl
    try simp only [Act.put, zzA, zzB, zzC, zzD, zzE, zzF]
    refine wpAnyY_take (i := 3) (v := ?_) rfl (by kernel_rfl) (by kernel_rfl) (by kernel_rfl) (by kernel_rfl) (fun _ _ _ h => h) (Or.inl ⟨by kernel_rfl, ?_⟩) hS ?_
    rotate_left
    · intro w' hSw; have n3 := hSw.1.cell 3; have lA := hSw.1.lt; have j7 := hSw.2.cell 7; have lJ := hSw.2.lt; go_simp; with_reducible rfl
    try simp only [Act.put, zzA, zzB, zzC, zzD, zzE, zzF]
    refine wpAnyY_take (i := 4) (v := ?_) rfl (by kernel_rfl) (by kernel_rfl) (by kernel_rfl) (by kernel_rfl) (fun _ _ _ h => h) (Or.inl ⟨by kernel_rfl, ?_⟩) hS ?_
    rotate_left
    · intro w' hSw; go_simp; with_reducible rfl
    try simp only [Act.put, zzA, zzB, zzC, zzD, zzE, zzF]
    refine wpAnyY_take (i := 5) (v := ?_) rfl (by kernel_rfl) (by kernel_rfl) (by kernel_rfl) (by kernel_rfl) (fun _ _ _ h => h) (Or.inl ⟨by kernel_rfl, ?_⟩) hS ?_
    rotate_left
    · intro w' hSw; have n3 := hSw.1.cell 3; have lA := hSw.1.lt; have j7 := hSw.2.cell 7; have lJ := hSw.2.lt; go_simp; with_reducible rfl
    try simp only [Act.put, zzA, zzB, zzC, zzD, zzE, zzF]
    refine wpAnyY_take (i := 6) (v := ?_) rfl (by kernel_rfl) (by kernel_rfl) (by kernel_rfl) (by kernel_rfl) (fun _ _ _ h => h) (Or.inl ⟨by kernel_rfl, ?_⟩) hS ?_
    rotate_left
    · intro w' hSw; go_simp; with_reducible rfl
    try simp only [Act.put, zzA, zzB, zzC, zzD, zzE, zzF]
    obtain ⟨W5, hrun, hM5, hg5⟩ := hM1.store ybk PK HB.out (by unfold maxLen; omega)
    refine wpAnyY_oneW (i := 7) (by kernel_rfl) rfl (by kernel_rfl) (by kernel_rfl) (fun K7 hK7 => ?_)
    go_simp
    refine hK7.out _ _ ?_
    clear hK7
    try simp only [Act.put, zzA, zzB, zzC, zzD, zzE, zzF]
    refine wpAnyY_done (by kernel_rfl) ?_ _
    clear hS hrun
    have HZ := Lib.hid (HPP.out W5 (.tuple #[]) PK (.slice ra (n + 1) rc) hwP (bK1.grown hg5 (fun e => hPm (by injection e))) (bJ1.grown hg5 (fun e => hJm (by injection e))) (HO1.out.kept hg5 (.inr (fun e => HNm.out e.symm))) hM5 (F1.grown hg5 (fun g e => .inl (.inr (.inl (by injection e with e; exact e.symm))))))
    clear hM1 F1 bK1 bJ1 bA1 HO1 HPP hg5 hM5
    first | exact HZ.out | (go_wp2_with fail; exact HZ.out) | (go_ret; exact HZ.out) | (go_end0; exact HZ.out) | (go_wp2_with fail; go_end0; exact HZ.out) | trace_state
end Go.Proofs.YtabnpimidhlbiaaGreat

set_option linter.unusedSimpArgs false
set_option linter.unusedVariables false
namespace Go.Proofs.YtabnpimidhlbiaaGreat
open Go.RowKit Go.Shelf
attribute [local go_sem] Oper.semAt_some
theorem own_ac {W : World} {B : Nat} {T : TypeId} {u : Value} {l : List Ac} (h : W.ownsRow B T 8 u l.length (acV l)) : ∃ a c, u = .slice a l.length c ∧ RowE Ac.v 8 W a l := by
  rcases h.2 with ⟨rfl, h0⟩ | ⟨g, cap, cur, rfl, hb, hg, h1, h2, h3, h4⟩
  · exact ⟨none, 0, by rw [h0], .inl h0⟩
  · refine ⟨_, _, rfl, .inr ⟨g, 0, rfl, (Array.getElem?_eq_some_iff.1 hg).1, fun i hi r hr => ?_⟩⟩
    have e := acV_get l hi hr
    have hB : Blk W g T cur := hg
    have hlt : i * 8 + r < l.length * 8 := by omega
    rw [show 0 + i * 8 + r = i * 8 + r by omega, hB.cell, ← Array.getElem?_toList]
    have h5 : (cur.toList.take (l.length * 8))[i * 8 + r]? = (acV l)[i * 8 + r]? := by rw [h4]
    rw [List.getElem?_take_of_lt hlt] at h5
    rw [h5, e, acE, Array.getElem?_toList]
/-- the map of the sealed baskets, as pointers -/
def sdP (sd : Int → Option Nat) (P : Nat → Nat) : Int → Option Nat := fun x => (sd x).map P
/-- a journey under way, all in blocks from b on but itself and its map -/
structure JW (b : Nat) (W : World) (J m N : Nat) (x0 x1 x2 x3 : Value) (E : Int) (j : Jn) (P : Nat → Nat) (vp vq : Value) : Prop where
  bJ : Blk W J 79 #[x0, x1, x2, x3, .int .i64 E, vp, vq, .map (some m)]
  hp : W.ownsRow b 54 8 vp j.past.length (acV j.past)
  hq : W.ownsRow b 91 1 vq j.ps.length (ptrs P j.ps.length)
  hP : ∀ i, i < j.ps.length → b ≤ P i ∧ Blk W (P i) 100 (j.ps.getD i default).v
  inj : ∀ i k, i < j.ps.length → k < j.ps.length → P i = P k → i = k
  hm : SdM W m N (sdP j.sd P)
  ok : JOk j
  lJ : J < b
  lm : m < b
  lb : b ≤ W.heap.size
theorem JW.keep {b : Nat} {W W' : World} {J m N : Nat} {x0 x1 x2 x3 : Value} {E : Int} {j : Jn} {P : Nat → Nat} {vp vq : Value} (h : JW b W J m N x0 x1 x2 x3 E j P vp vq) (hG : G W W') : JW b W' J m N x0 x1 x2 x3 E j P vp vq :=
  ⟨h.bJ.keep hG, own_G h.hp hG, own_G h.hq hG, fun i hi => ⟨(h.hP i hi).1, (h.hP i hi).2.keep hG⟩, h.inj, h.hm.keepG hG, h.ok, h.lJ, h.lm, Nat.le_trans h.lb hG.size⟩
theorem JW.mono {b : Nat} {W : World} {J m N N' : Nat} {x0 x1 x2 x3 : Value} {E : Int} {j : Jn} {P : Nat → Nat} {vp vq : Value} (h : JW b W J m N x0 x1 x2 x3 E j P vp vq) (hN : N ≤ N') : JW b W J m N' x0 x1 x2 x3 E j P vp vq :=
  ⟨h.bJ, h.hp, h.hq, h.hP, h.inj, h.hm.mono hN, h.ok, h.lJ, h.lm, h.lb⟩
/-- what an act may change -/
abbrev RJ (w : World) (J m b : Nat) : Nat → Prop := fun i => i = J ∨ i = m ∨ (b ≤ i ∧ ∃ c t, w.heap[i]? = some (Obj.cells c t (0, 0)) ∧ (t = 100 ∨ t = 91))
def HapPost (b : Nat) (w : World) (J m N : Nat) (x0 x1 x2 x3 : Value) (E : Int) (r : Bool) (j' : Jn) (vp : Value) (e : Ending) (w' : World) : Prop :=
  e = .returned (.bool r) ∧ Fr (RJ w J m b) w w' ∧ (r = true → ∃ P' vq', JW b w' J m N x0 x1 x2 x3 E j' P' vp vq')
theorem JW.where_ {b : Nat} {W : World} {J m N : Nat} {x0 x1 x2 x3 : Value} {E : Int} {j : Jn} {P : Nat → Nat} {vp vq : Value} (h : JW b W J m N x0 x1 x2 x3 E j P vp vq) (hn : j.past.length ≤ 1000) (mi bd : Int) :
    Calls Tryz.prog 60 #[.pointer (some ⟨J, 0, none⟩), .int .i64 mi, .int .i64 bd] W fun e w' => e = .returned (.int .i64 (whr j.past mi bd)) ∧ G W w' := by
  obtain ⟨a, c, rfl, hr⟩ := own_ac h.hp
  exact where_any j.past a c J mi bd W (h.bJ.cell 5) h.bJ.lt hr hn
/-- a journey behind a sealing -/
theorem JW.sealed {b : Nat} {W W' : World} {J m N : Nat} {x0 x1 x2 x3 : Value} {E : Int} {j : Jn} {P : Nat → Nat} {vp vq vq' : Value} {a : Ac} {PK : Nat} (h : JW b W J m N x0 x1 x2 x3 E j P vp vq) (h1 : W.heap.size ≤ PK) (h2 : Blk W' PK 100 (newP E a).v) (h3 : Blk W' J 79 #[x0, x1, x2, x3, .int .i64 E, vp, vq', .map (some m)])
    (h4 : W'.ownsRow b 91 1 vq' (j.ps.length + 1) (ptrs P j.ps.length ++ [.pointer (some ⟨PK, 0, none⟩)])) (h5 : SdM W' m (N + 1) (fun x => if x = a.bk then some PK else sdP j.sd P x)) (hF : Fr (fun i => i = J ∨ i = m ∨ vq.ownBlock = some i) W W') (ok' : JOk ⟨j.past, j.ps ++ [newP E a], fun x => if x = a.bk then some j.ps.length else j.sd x⟩) :
    JW b W' J m (N + 1) x0 x1 x2 x3 E ⟨j.past, j.ps ++ [newP E a], fun x => if x = a.bk then some j.ps.length else j.sd x⟩ (fun k => if k = j.ps.length then PK else P k) vp vq' := by
  have hlt : ∀ i, i < j.ps.length → P i < PK := fun i hi => Nat.lt_of_lt_of_le (h.hP i hi).2.lt h1
  refine ⟨h3, own_Fr h.hp hF fun g hg => ?_, ?_, fun i hi => ?_, fun i k hi hk e => ?_, ?_, ok', h.lJ, h.lm, Nat.le_trans h.lb hF.size⟩
  · rintro (rfl | rfl | e)
    · exact own_blk_ne h.hp h.bJ (by decide) hg.symm
    · exact own_sdm h.hm h.hp hg.symm
    · rcases own_own h.hp h.hq (by decide) with e2 | e2
      · rw [e2] at hg; cases hg
      · exact e2 (hg.trans e.symm)
  · show W'.ownsRow b 91 1 vq' (j.ps ++ [newP E a]).length (ptrs _ (j.ps ++ [newP E a]).length)
    rw [List.length_append, List.length_singleton, ptrs_succ]
    simp only [if_true]
    rw [ptrs_congr (Q := P) fun i hi => by simp only [if_neg (Nat.ne_of_lt hi)]]
    exact h4
  · have hi' : i < (j.ps ++ [newP E a]).length := hi
    rw [List.length_append, List.length_singleton] at hi'
    show b ≤ (if i = j.ps.length then PK else P i) ∧ Blk W' (if i = j.ps.length then PK else P i) 100 ((j.ps ++ [newP E a]).getD i default).v
    by_cases e : i = j.ps.length
    · rw [if_pos e, e, getD_snoc_self]
      exact ⟨Nat.le_trans h.lb h1, h2⟩
    · have hl : i < j.ps.length := by omega
      rw [if_neg e, getD_snoc_lt _ _ hl]
      refine ⟨(h.hP i hl).1, hF.blk (h.hP i hl).2 ?_⟩
      rintro (e1 | e1 | e1)
      · have e3 := (show W.heap[P i]? = _ from (h.hP i hl).2).symm.trans (show W.heap[P i]? = _ from (e1 ▸ h.bJ))
        simp at e3
      · exact h.hm.ne (h.hP i hl).2 e1
      · exact own_blk_ne h.hq (h.hP i hl).2 (by decide) e1.symm
  · have hi' : i < (j.ps ++ [newP E a]).length := hi
    have hk' : k < (j.ps ++ [newP E a]).length := hk
    rw [List.length_append, List.length_singleton] at hi' hk'
    by_cases e1 : i = j.ps.length
    · by_cases e2 : k = j.ps.length
      · omega
      · rw [if_pos e1, if_neg e2] at e
        have := hlt k (by omega)
        omega
    · by_cases e2 : k = j.ps.length
      · rw [if_neg e1, if_pos e2] at e
        have := hlt i (by omega)
        omega
      · rw [if_neg e1, if_neg e2] at e
        exact h.inj i k (by omega) (by omega) e
  · have e : sdP (fun x => if x = a.bk then some j.ps.length else j.sd x) (fun k => if k = j.ps.length then PK else P k) = (fun x => if x = a.bk then some PK else sdP j.sd P x) := by
      funext x
      unfold sdP
      by_cases e : x = a.bk
      · simp [e]
      · simp only [if_neg e]
        cases hx : j.sd x with
        | none => rfl
        | some i =>
          have := (h.ok.som x i hx).1
          simp only [Option.map_some, if_neg (Nat.ne_of_lt this)]
    show SdM W' m (N + 1) (sdP _ _)
    rw [e]
    exact h5
/-- a journey behind a look -/
theorem JW.looked {b : Nat} {W W' : World} {J m N : Nat} {x0 x1 x2 x3 : Value} {E : Int} {j : Jn} {P : Nat → Nat} {vp vq : Value} {a : Ac} {i : Nat} (h : JW b W J m N x0 x1 x2 x3 E j P vp vq) (hi : j.sd a.bk = some i) {p' : Pe} (h2 : Blk W' (P i) 100 p'.v) (h5 : SdM W' m N (lookM a a.bk (sdP j.sd P))) (hF : Fr (fun k => k = P i ∨ k = m) W W') {sd' : Int → Option Nat} (hsd : sd' = lookM a a.bk j.sd) (ok' : JOk ⟨j.past, j.ps.set i p', sd'⟩) :
    JW b W' J m N x0 x1 x2 x3 E ⟨j.past, j.ps.set i p', sd'⟩ P vp vq := by
  have hil := (h.ok.som _ _ hi).1
  have hPi := (h.hP i hil).2
  have hne : ∀ {g t cs}, Blk W g t cs → t ≠ 100 → ¬ (g = P i ∨ g = m) := fun hb ht e => by
    rcases e with e | e
    · subst e
      have e3 := (show W.heap[P i]? = _ from hPi).symm.trans (show W.heap[P i]? = _ from hb)
      simp at e3
      exact ht e3.2.symm
    · exact h.hm.ne hb e
  refine ⟨hF.blk h.bJ (hne h.bJ (by decide)), own_Fr h.hp hF fun g hg => ?_, ?_, fun k hk => ?_, fun i1 k1 h1 h3 e => ?_, ?_, ok', h.lJ, h.lm, Nat.le_trans h.lb hF.size⟩
  · rintro (e | rfl)
    · exact own_blk_ne h.hp hPi (by decide) (e ▸ hg.symm)
    · exact own_sdm h.hm h.hp hg.symm
  · show W'.ownsRow b 91 1 vq (j.ps.set i p').length (ptrs P (j.ps.set i p').length)
    rw [List.length_set]
    refine own_Fr h.hq hF fun g hg => ?_
    rintro (e | rfl)
    · exact own_blk_ne h.hq hPi (by decide) (e ▸ hg.symm)
    · exact own_sdm h.hm h.hq hg.symm
  · have hk' : k < j.ps.length := by simpa using hk
    refine ⟨(h.hP k hk').1, ?_⟩
    show Blk W' (P k) 100 ((j.ps.set i p').getD k default).v
    by_cases e : i = k
    · subst e
      rw [getD_set_self _ _ _ hil]
      exact h2
    · rw [getD_set_ne _ _ _ _ e]
      refine hF.blk (h.hP k hk').2 ?_
      rintro (e1 | e1)
      · exact e (h.inj k i hk' hil e1).symm
      · exact h.hm.ne (h.hP k hk').2 e1
  · exact h.inj i1 k1 (by simpa using h1) (by simpa using h3) e
  · show SdM W' m N (sdP sd' P)
    have e : sdP sd' P = lookM a a.bk (sdP j.sd P) := by
      rw [hsd]
      unfold lookM sdP
      by_cases e : a.kd = 5
      · simp only [if_pos e]
        funext x
        by_cases e2 : x = a.bk <;> simp [e2]
      · simp only [if_neg e]
    rw [e]
    exact h5
end Go.Proofs.YtabnpimidhlbiaaGreat

set_option linter.unusedSimpArgs false
set_option linter.unusedVariables false
namespace Go.Proofs.YtabnpimidhlbiaaGreat
open Go.RowKit Go.Shelf
attribute [local go_sem] Oper.semAt_some wide_fn wide_dep wideR_fn wideR_dep
theorem cell_new8 (w : World) (t : TypeId) (l : List Value) : ∀ j u, l[j]? = some u → (w.alloc (.cells l.toArray t)).cell? ((⟨w.heap.size, 0, none⟩ : Addr).add j) = some u := fun j u h =>
  World.news_of_block (cs := l.toArray) (t := t) (fr := (0, 0)) (heap_alloc_new w _) j u (by simpa using h)
theorem info54 : (Tryz.prog.info? 54).map (fun i => (i.zero, i.size, i.bytes)) = some (some (.agg #[.int .i64 0, .int .i64 0, .int .i64 0, .int .i64 0, .int .i64 0, .int .i64 0, .int .i64 0, .int .i64 0]), 8, 64) := by kernel_rfl
/-- acts at a block -/
def AcsIn (W : World) (g off : Nat) (l : List Ac) : Prop := ∀ i, i < l.length → ∀ r, r < 8 → W.cell? ⟨g, off + i * 8 + r, none⟩ = (l.getD i default).v[r]?
theorem AcsIn.kb {A W : World} {g off : Nat} {l : List Ac} (h : AcsIn A g off l) (hk : KB g A W) : AcsIn W g off l :=
  fun i hi r hr => (World.cell?_of_block (a := ⟨g, off + i * 8 + r, none⟩) hk).trans (h i hi r hr)
set_option maxRecDepth 100000 in
set_option maxHeartbeats 4000000 in
theorem vals_in (n : Nat) (hn : 1 ≤ n) (l0 B g off cap : Nat) (a : Option Addr) (ls : List Ac) (hlen : ls.length ≤ 1000) (ha : 0 < ls.length → a = some ⟨g, off, none⟩)
    (J Jx : List Ac → World → Prop)
    (W : World) (hJ : AbidesFrom W.heap.size J)
    (hY : ∀ pre x W1, J pre W1 → pre.length < ls.length → YieldAt Fence.wide (n - 1) Tryz.prog l0 #[.agg x.v] W1 fun e W' =>
      (e = .returned (.bool true) ∧ J (pre ++ [x]) W' ∧ KB g W1 W') ∨ (e = .returned (.bool false) ∧ Jx (pre ++ [x]) W'))
    (hg : g < W.heap.size) (hBs : Blk W B 22 #[.slice a ls.length cap]) (hI : AcsIn W g off ls) (h0 : J [] W) :
    CallsIn Fence.wide n Tryz.prog 106 #[.func (.yield l0) #[] #[], .pointer (some ⟨B, 0, none⟩)] W fun e W' => (∃ v, e = .returned v) ∧
      ((∃ ys, ys = ls ∧ J ys W') ∨ (∃ pre, pre <+: ls ∧ Jx pre W')) := by
  have c0 : W.cell? ⟨B, 0, none⟩ = some (.slice a ls.length cap) := hBs.cell 0
  have lB := hBs.lt
  refine callsIn_of_wp Tryz.func106 rfl trivial ?_ rfl
  simp only [Tryz.ntmps106, List.size_toArray, List.length_cons, List.length_nil, Nat.reduceAdd, Nat.reduceSub, Array.replicate_succ, Array.replicate_zero, List.push_toArray, List.append_toArray, List.nil_append, List.cons_append]
  have HY := Lib.hid hY
  have HJ0 := Lib.hid h0
  have HI := Lib.hid hI
  clear hY h0 hI
  gi_wp2
  clear c0 lB
  gi_loopw [7] (fun i wr => ∃ y : Nat, y ≤ ls.length ∧ i = .int .i64 y ∧ Hid (J (ls.take y) wr) ∧ Hid (KB g W wr))
    (fun i _ => ls.length - (intOf i).toNat)
  case atStart => exact ⟨0, Nat.zero_le _, rfl, HJ0.out, KB.rf _ _⟩
  case round =>
    obtain ⟨y, hy, rfl, hJs, hnx⟩ := hrel
    by_cases hlt : y < ls.length
    · obtain rfl := ha (by omega)
      obtain ⟨wo, rfl⟩ : ∃ wo, wo = wr := ⟨_, rfl⟩
      have hx := (HI.out.kb hnx.out) y hlt
      have hyi : (y : Int) < ls.length := by omega
      have hsn : ls.take (y + 1) = ls.take y ++ [ls.getD y default] := by
        rw [List.take_succ_eq_append_getElem hlt]; simp [hlt]
      generalize ls.getD y default = x at hx hsn
      have HSN := Lib.hid hsn
      clear hsn
      have hpl : (ls.take y).length < ls.length := by simp; omega
      have hJA := hJ _ _ _ none hJs.out (World.grownBy_alloc wo (.cells x.v 54) none) (fun r e => by cases e)
      obtain ⟨fn, tmps, assign, body, hy', hR⟩ := HY.out (ls.take y) x _ hJA hpl
      have hR2 := Lib.hid hR
      have lg : g < wo.heap.size := (Array.getElem?_eq_some_iff.1 (Eq.trans hnx.out (Array.getElem?_eq_getElem hg))).1
      have hkA : Hid (KB g W (wo.alloc (.cells x.v 54))) := hnx.out.t (Below.heap_alloc wo _ g lg)
      clear hR hJA hJs hnx
      obtain ⟨yid, ytm, ykd, ybk, ybd, ym1, ym2, ysl⟩ := x
      unfold Ac.v at *
      have q0 : wo.cell? ⟨g, off + y * 8, none⟩ = some (.int .i64 yid) := hx 0 (by omega)
      have q1 : wo.cell? ⟨g, off + y * 8 + 1, none⟩ = some (.int .i64 ytm) := hx 1 (by omega)
      have q2 : wo.cell? ⟨g, off + y * 8 + 2, none⟩ = some (.int .i64 ykd) := hx 2 (by omega)
      have q3 : wo.cell? ⟨g, off + y * 8 + 3, none⟩ = some (.int .i64 ybk) := hx 3 (by omega)
      have q4 : wo.cell? ⟨g, off + y * 8 + 4, none⟩ = some (.int .i64 ybd) := hx 4 (by omega)
      have q5 : wo.cell? ⟨g, off + y * 8 + 5, none⟩ = some (.int .i64 ym1) := hx 5 (by omega)
      have q6 : wo.cell? ⟨g, off + y * 8 + 6, none⟩ = some (.int .i64 ym2) := hx 6 (by omega)
      have q7 : wo.cell? ⟨g, off + y * 8 + 7, none⟩ = some (.int .i64 ysl) := hx 7 (by omega)
      clear hx
      gi_wp2_with gi_in
      refine hR2.out.mono ?_
      rintro e W3 (⟨rfl, hJ3, hk3⟩ | ⟨rfl, hJx3⟩)
      · gi_wp2_with gi_in
        go_roundw
        case rel => exact ⟨y + 1, by omega, by simp, by rw [HSN.out]; exact hJ3, hkA.out.t hk3⟩
        case measure => simp [intOf]; omega
      · gi_wp2_with gi_in
        refine bodyPost_ret (results_none rfl _ _ _) rfl ?_
        exact ⟨⟨_, rfl⟩, .inr ⟨_, by rw [← HSN.out]; exact List.take_prefix _ _, hJx3⟩⟩
    · have hta : ls.take y = ls := List.take_of_length_le (by omega)
      have hyi : ¬ (y : Int) < ls.length := by omega
      have hJ4 : Hid (J ls wr) := by rw [← hta]; exact hJs.out
      gi_wp2_with gi_in
      go_end0
      first | exact ⟨⟨_, rfl⟩, .inl ⟨_, rfl, hJ4.out⟩⟩ | (refine ⟨?_, .inl ?_⟩ <;> first | exact hJ4.out | exact ⟨_, rfl⟩ | exact ⟨_, rfl, hJ4.out⟩) | exact hJ4.out | exact .inl hJ4.out
theorem vals_stops (n : Nat) (hn : 1 ≤ n) (B g off cap : Nat) (a : Option Addr) (ls : List Ac) (hlen : ls.length ≤ 1000) (ha : 0 < ls.length → a = some ⟨g, off, none⟩) (w : World) (hBs : Blk w B 22 #[.slice a ls.length cap]) (hg : g < w.heap.size) (hI : AcsIn w g off ls) :
    SeqStopsK Fence.wide n Tryz.prog 106 #[.pointer (some ⟨B, 0, none⟩)] (fun x : Ac => #[.agg x.v]) (KB g) (fun ys => ys = ls) (fun pre => pre <+: ls) ls.length w :=
  fun l J Jx W hW hJ _ hY h0 => vals_in n hn l B g off cap a ls hlen ha J Jx W hJ hY (Nat.lt_of_lt_of_le hg hW.size) (hBs.keep hW) (hI.kb (hW.block g hg)) h0
theorem values_any (v : Value) (w : World) (a : Option Addr) (k c : Nat) (hv : v = .slice a k c) :
    Calls Tryz.prog 93 #[v] w fun e w' => e = .returned (.func (.func 106) #[] #[.pointer (some ⟨w.heap.size, 0, none⟩)]) ∧ w' = w.alloc (.cells #[v] 22) := by
  subst hv
  go_enter Tryz.func93, Tryz.ntmps93
  go_wp2
  go_ret
  exact ⟨rfl, rfl⟩
def PApInv (w : World) (pre : List Ac) (W : World) : Prop :=
  ∃ v, Blk W w.heap.size 22 #[v] ∧ W.ownsRow (w.heap.size + 1) 54 8 v pre.length (acV pre) ∧ G w W ∧ w.heap.size + 1 ≤ W.heap.size
theorem papInv_own (w : World) (B : Nat) (hB : w.heap.size + 1 ≤ B) : OwnFrom B (PApInv w) := by
  rintro pre X Y row ⟨v, b1, hr, hG, hs⟩ hg hrow
  have hn : some w.heap.size ≠ row := fun e => by
    obtain ⟨_, o, ho, hc⟩ := hrow _ e.symm
    rw [show X.heap[w.heap.size]? = _ from b1] at ho; cases ho; cases hc
  exact ⟨v, b1.grown hg hn, ownsRow_kept' hr hg (fun r e => (hrow r e).2), (((G.fr (R := fun _ => False) hG).grown hg (fun g e => .inr (by have := (hrow g e).1; omega)))).toG (fun _ _ h => h), Nat.le_trans hs hg.size⟩
set_option maxRecDepth 100000 in
set_option maxHeartbeats 4000000 in
theorem append_in (n : Nat) (hn : 3 ≤ n) (B g off cap : Nat) (ad : Option Addr) (ls : List Ac) (hlen : ls.length ≤ 1000) (ha : 0 < ls.length → ad = some ⟨g, off, none⟩) (w : World) (hBs : Blk w B 22 #[.slice ad ls.length cap]) (hg : g < w.heap.size) (hI : AcsIn w g off ls) :
    CallsIn Fence.wide n Tryz.prog 108 #[.slice none 0 0, .func (.func 106) #[] #[.pointer (some ⟨B, 0, none⟩)]] w fun e w' =>
      ∃ v, e = .returned v ∧ w'.ownsRow w.heap.size 54 8 v ls.length (acV ls) ∧ G w w' := by
  refine callsIn_of_wp_marks Tryz.func108 rfl trivial ?_ rfl
  simp only [Tryz.ntmps108, List.size_toArray, List.length_cons, List.length_nil, Nat.reduceAdd, Nat.reduceSub, Array.replicate_succ, Array.replicate_zero, List.push_toArray, List.append_toArray, List.nil_append, List.cons_append]
  gi_wp2
  refine rangeFunc_box (F := Fence.wide) (α := Ac) (gf := 106) (lb := #[.pointer (some ⟨B, 0, none⟩)]) rfl (by omega) rfl trivial (enters_of Tryz.func106 (by kernel_rfl) rfl)
    (ev := fun x => .agg x.v) (B := g) (vals_stops (n - 1) (by omega) B g off cap ad ls hlen ha (w.alloc (.cells #[.slice none 0 0] 22)) (hBs.alloc _) (by simp; omega) (hI.kb (Below.heap_alloc _ _ _ hg)))
    (by simp; omega) (Below.refl _ _) (PApInv w) (fun _ _ _ => False) (papInv_own _ _ (by simp)) (fun _ _ _ _ _ h _ _ => h) ?hIs ?h0 5 54 (fun x => x.v) ?assign ?body ?done ?stop
  case hIs =>
    rintro pre W ⟨v, _, _, _, hs⟩
    simpa using hs
  case h0 => exact ⟨_, Blk.new _ _ _, World.ownsRow_nil _ _ _ _, (G.rf _).a _, by simp⟩
  case assign =>
    intro l x W K hK
    unfold Ac.v at hK ⊢
    gi_wp2
    exact hK
  case body =>
    rintro l pre x Bp W hl hrec ⟨v, b1, hr, hG, hs⟩ hBp hbp hN
    obtain ⟨i0, hi0, hz0, hz1, hz2⟩ := info_parts info54
    have c0 := b1.cell 0
    have lA := b1.lt
    have nA := own_ne hr b1 (by decide)
    have hsn : acV (pre ++ [x]) = acV pre ++ acE x := acV_snoc pre x
    obtain ⟨yid, ytm, ykd, ybk, ybd, ym1, ym2, ysl⟩ := x
    unfold acE at hsn
    unfold Ac.v at *
    dsimp only at *
    have d0 := hbp.cell 0
    have d1 := hbp.cell 1
    have d2 := hbp.cell 2
    have d3 := hbp.cell 3
    have d4 := hbp.cell 4
    have d5 := hbp.cell 5
    have d6 := hbp.cell 6
    have d7 := hbp.cell 7
    have lp := hbp.lt
    gi_wp2_with (gi_at_builtin; refine wpListIn_append_own _ rfl _ _ 22 rfl (w.heap.size + 1) 54 i0 (.agg #[.int .i64 0, .int .i64 0, .int .i64 0, .int .i64 0, .int .i64 0, .int .i64 0, .int .i64 0, .int .i64 0]) 8 64 Tryz.underlying22 hi0 hz0 hz1 hz2 rfl (by decide) _ _ _ rfl (hr.alloc _) ⟨W.heap.size, 0, none⟩ 1 1 [.int .i64 yid, .int .i64 ytm, .int .i64 ykd, .int .i64 ybk, .int .i64 ybd, .int .i64 ym1, .int .i64 ym2, .int .i64 ysl] rfl rfl (cell_new8 _ _ _) (by simp [Value.oneCell']) (by unfold maxLen; omega) (by omega) (by simp; omega) ?_; intro v' w3 hown' hg3 hnil3; have b3 := (b1.alloc (.cells #[.int .i64 yid, .int .i64 ytm, .int .i64 ykd, .int .i64 ybk, .int .i64 ybd, .int .i64 ym1, .int .i64 ym2, .int .i64 ysl] 54)).grown hg3 nA; have c3 := b3.cell 0; have z3 := b3.frozen 0; obtain ⟨g', cap', rfl⟩ : ∃ g' cap', v' = .slice (some ⟨g', 0, none⟩) (pre.length + 1) cap' := (by
         rcases hown'.2 with ⟨_, h0⟩ | ⟨g', cap', _, h1, _⟩
         · exact absurd h0 (by omega)
         · exact ⟨g', cap', h1⟩); go_frame)
    have bE := b3.set_ 0 (.slice (some ⟨g', 0, none⟩) (pre.length + 1) cap')
    have hownE := hown'.kept (grownBy_set w3 ⟨w.heap.size, 0, none⟩ (.slice (some ⟨g', 0, none⟩) (pre.length + 1) cap')) (.inr (own_ne hown' b3 (by decide)).symm)
    have frE : Fr (fun i => i = w.heap.size ∨ v.ownBlock = some i) W (w3.setCell ⟨w.heap.size, 0, none⟩ (.slice (some ⟨g', 0, none⟩) (pre.length + 1) cap')) :=
      (((Fr.rf _ W).a _).grown hg3 (fun g e => .inl (.inr e))).s (.inl (.inl rfl)) _
    generalize w3.setCell ⟨w.heap.size, 0, none⟩ (.slice (some ⟨g', 0, none⟩) (pre.length + 1) cap') = wE at *
    have hB3 : ∀ i, v.ownBlock = some i → w.heap.size + 1 ≤ i := fun i h => own_base hr h
    refine ⟨frE.keeps ?_ _, frE.kb (by omega) ?_, ?_⟩
    · rintro i (rfl | h) _
      · exact ⟨_, _, _, b1⟩
      · exact own_cells hr h
    · rintro (h | h)
      · omega
      · have := hB3 _ h; omega
    · refine ⟨_, bE, by rw [List.length_append, hsn]; exact hownE, ((G.fr (R := fun _ => False) hG).t2 frE (fun i hi h => ?_)).toG (fun _ _ h => h), Nat.le_trans hs frE.size⟩
      rcases h with h | h
      · omega
      · have := hB3 _ h; omega
  case done =>
    rintro D xs W hD rfl ⟨v, b1, hr, hG, hs⟩ hDef
    have c0 := b1.cell 0
    gi_wp2
    refine ⟨by simp, .inl ⟨_, _, rfl, run_takeDeferred hDef, ?_⟩⟩
    refine ⟨_, results_tmp rfl _ _ _, _, rfl, ?_, ?_⟩
    · exact own_weaken (ownsRow_kept' (row := some D) hr ⟨rfl, rfl, rfl, by simp [World.putObj], fun i _ hn => World.putObj_heap_other (fun e => hn (by rw [e]))⟩ (fun r e => by cases e; exact ⟨_, hDef, rfl⟩)) (by omega)
    · have hf : Fr (fun i => i = D) W (W.putObj D (.deferred none)) := ⟨rfl, rfl, rfl, by simp [World.putObj], fun i _ hn => World.putObj_heap_other hn⟩
      refine ((G.fr (R := fun _ => False) hG).t2 hf (fun i hi h => ?_)).toG (fun _ _ h => h)
      simp at hD
      omega
  case stop =>
    rintro D c pre W _ _ h _
    exact h.elim
theorem collect_any (B g off cap : Nat) (ad : Option Addr) (ls : List Ac) (hlen : ls.length ≤ 1000) (ha : 0 < ls.length → ad = some ⟨g, off, none⟩) (w : World) (hBs : Blk w B 22 #[.slice ad ls.length cap]) (hg : g < w.heap.size) (hI : AcsIn w g off ls) :
    Calls Tryz.prog 104 #[.func (.func 106) #[] #[.pointer (some ⟨B, 0, none⟩)]] w fun e w' => ∃ v, e = .returned v ∧ w'.ownsRow w.heap.size 54 8 v ls.length (acV ls) ∧ G w w' := by
  have HA := Lib.hid ((callsIn_wide (n := 3)).1 (append_in 3 (by omega) B g off cap ad ls hlen ha w hBs hg hI))
  clear ha
  go_enter Tryz.func104, Tryz.ntmps104
  go_wp2_with (go_at_call 108; refine HA.out.mono ?_; rintro e w1 ⟨v, rfl, ho, hG⟩)
  go_ret
  exact ⟨v, rfl, ho, hG⟩
/-- slices.SortedFunc over acts -/
theorem sortedFunc_any (B g off cap : Nat) (ad : Option Addr) (ls : List Ac) (hu : OneId ls) (hlen : ls.length ≤ 1000) (ha : 0 < ls.length → ad = some ⟨g, off, none⟩) (w : World) (hBs : Blk w B 22 #[.slice ad ls.length cap]) (hg : g < w.heap.size) (hI : AcsIn w g off ls) :
    Calls Tryz.prog 92 #[.func (.func 106) #[] #[.pointer (some ⟨B, 0, none⟩)], .func (.func 94) #[] #[]] w fun e w' => ∃ v, e = .returned v ∧ w'.ownsRow w.heap.size 54 8 v ls.length (acV (msA ls)) ∧ G w w' := by
  have HC := Lib.hid (collect_any B g off cap ad ls hlen ha w hBs hg hI)
  have HU := Lib.hid hu
  clear hu ha hI
  go_enter Tryz.func92, Tryz.ntmps92
  go_wp2_with (first | (go_at_call 104; refine HC.out.mono ?_; rintro e w1 ⟨v, rfl, ho, hG⟩) | (go_at_call 105; refine (sort_own ls HU.out hlen _ _ _ ho).mono ?_; rintro e w2 ⟨rfl, ho2, hg2⟩))
  go_ret
  exact ⟨v, rfl, ho2, grow_own hG ho (Nat.le_refl _) hg2⟩
end Go.Proofs.YtabnpimidhlbiaaGreat

set_option linter.unusedSimpArgs false
set_option linter.unusedVariables false
namespace Go.Proofs.YtabnpimidhlbiaaGreat
open Go.RowKit Go.Shelf Go.Sort
attribute [local go_sem] Oper.semAt_some
theorem Blk.setMany {g : Nat} {t : TypeId} : ∀ (vs : List Value) (o : Nat) (W : World) (cs : Array Value), Blk W g t cs → Blk (W.setCells g o vs) g t (setMany cs o vs)
  | [], _, _, _, h => h
  | v :: r, o, W, cs, h => Blk.setMany r (o + 1) _ _ (h.set_ o v)
theorem G_setCells {w0 : World} {g : Nat} (hg : w0.heap.size ≤ g) : ∀ (vs : List Value) (o : Nat) (W : World), G w0 W → G w0 (W.setCells g o vs)
  | [], _, _, h => h
  | v :: r, o, W, h => G_setCells hg r (o + 1) _ (h.s (p := ⟨g, o, none⟩) hg v)
theorem many_get {cs : Array Value} {o : Nat} {vs : List Value} {t : Nat} (h : t < cs.size) : (setMany cs o vs)[t]? = if o ≤ t ∧ t < o + vs.length then vs[t - o]? else cs[t]? := by
  have e := get_setMany vs o cs t h
  have h2 : t < (setMany cs o vs).size := by rw [size_setMany]; exact h
  rw [getElem!_pos _ t h2] at e
  rw [Array.getElem?_eq_getElem h2, e]
  by_cases hc : o ≤ t ∧ t < o + vs.length
  · rw [if_pos hc, if_pos hc]
    have h3 : t - o < vs.length := by omega
    rw [getElem!_pos vs _ h3, List.getElem?_eq_getElem h3]
  · rw [if_neg hc, if_neg hc, getElem!_pos cs t h, Array.getElem?_eq_getElem h]
theorem blk_has {W : World} {g : Nat} {t : TypeId} {cs : Array Value} (h : Blk W g t cs) {i : Nat} (hi : i < cs.size) : (W.cell? ⟨g, i, none⟩).isSome = true := by
  rw [h.cell i, Array.getElem?_eq_getElem hi]
  rfl
/-- the row while a function of package slices works in it: the first ones are those kept, from j on it is as it was -/
structure DelA (W : World) (g cap : Nat) (l K : List Ac) (j : Nat) (cur : Array Value) : Prop where
  blk : Blk W g 54 cur
  sz : cur.size = cap * 8
  done : ∀ t, t < K.length → ∀ r, r < 8 → cur[t * 8 + r]? = (acE (K.getD t default))[r]?
  rest : ∀ t, j ≤ t → t < l.length → ∀ r, r < 8 → cur[t * 8 + r]? = (acE (l.getD t default))[r]?
theorem DelA.keepG {W W' : World} {g cap j : Nat} {l K : List Ac} {cur : Array Value} (h : DelA W g cap l K j cur) (hG : G W W') : DelA W' g cap l K j cur := ⟨h.blk.keep hG, h.sz, h.done, h.rest⟩
theorem DelA.skip {W : World} {g cap j j' : Nat} {l K : List Ac} {cur : Array Value} (h : DelA W g cap l K j cur) (hj : j ≤ j') : DelA W g cap l K j' cur := ⟨h.blk, h.sz, h.done, fun t a b => h.rest t (by omega) b⟩
theorem DelA.put {W : World} {g cap j j' i : Nat} {l K : List Ac} {cur : Array Value} (h : DelA W g cap l K j cur) (hc : K.length < cap) (hj : j ≤ j') (hK : K.length < j') :
    DelA (W.setCells g (K.length * 8) (acE (l.getD i default))) g cap l (K ++ [l.getD i default]) j' (setMany cur (K.length * 8) (acE (l.getD i default))) := by
  have hs := h.sz
  refine ⟨Blk.setMany _ _ _ _ h.blk, by rw [size_setMany]; exact hs, ?_, ?_⟩
  · intro t ht r hr
    rw [List.length_append, List.length_singleton] at ht
    rw [many_get (by omega), acE_len]
    by_cases h1 : t < K.length
    · rw [if_neg (by omega), h.done t h1 r hr]
      simp [List.getD_eq_getElem?_getD, List.getElem?_append_left h1]
    · obtain rfl : t = K.length := by omega
      rw [if_pos (by omega), show K.length * 8 + r - K.length * 8 = r by omega]
      simp [List.getD_eq_getElem?_getD]
  · intro t ht1 ht2 r hr
    by_cases hb : t * 8 + r < cur.size
    · rw [many_get hb, acE_len, if_neg (by omega)]
      exact h.rest t (by omega) ht2 r hr
    · have e := h.rest t (by omega) ht2 r hr
      rw [Array.getElem?_eq_none (by omega)] at e
      rw [Array.getElem?_eq_none (by rw [size_setMany]; omega), e]
theorem DelA.start {W : World} {g cap : Nat} {l : List Ac} {cur : Array Value} (hB : Blk W g 54 cur) (hs : cur.size = cap * 8) (ht : cur.toList.take (l.length * 8) = acV l) (k : Nat) : DelA W g cap l (l.take k) 0 cur := by
  have hget : ∀ t, t < l.length → ∀ r, r < 8 → cur[t * 8 + r]? = (acE (l.getD t default))[r]? := fun t ht1 r hr => by
    have e := acV_get l ht1 hr
    have h5 : (cur.toList.take (l.length * 8))[t * 8 + r]? = (acV l)[t * 8 + r]? := by rw [ht]
    rw [List.getElem?_take_of_lt (by omega)] at h5
    rw [← Array.getElem?_toList, h5, e]
  refine ⟨hB, hs, ?_, fun t _ b => hget t b⟩
  intro t ht1 r hr
  rw [List.length_take] at ht1
  rw [hget t (by omega) r hr]
  simp [List.getD_eq_getElem?_getD, List.getElem?_take_of_lt (show t < k by omega)]
/-- the end: the kept ones' row -/
theorem DelA.fin {W W' : World} {g cap B j : Nat} {l K : List Ac} {cur : Array Value} (h : DelA W g cap l K j cur) (hg : B ≤ g) (h1 : K.length ≤ cap) (h2 : cap ≤ maxLen) (vs : List Value) (hW : W' = W.setCells g (K.length * 8) vs) :
    W'.ownsRow B 54 8 (.slice (some ⟨g, 0, none⟩) K.length cap) K.length (acV K) := by
  subst hW
  have hs := h.sz
  refine ⟨acV_len _, .inr ⟨g, cap, _, rfl, hg, Blk.setMany vs _ _ _ h.blk, h1, h2, by rw [size_setMany]; exact hs, ?_⟩⟩
  apply List.ext_getElem?
  intro t
  by_cases ht : t < K.length * 8
  · rw [List.getElem?_take_of_lt ht, Array.getElem?_toList, many_get (by omega), if_neg (by omega)]
    have e := h.done (t / 8) (by omega) (t % 8) (by omega)
    have e2 := acV_get K (i := t / 8) (r := t % 8) (by omega) (by omega)
    rw [show t / 8 * 8 + t % 8 = t by omega] at e e2
    rw [e, e2]
  · rw [List.getElem?_take_eq_none (by omega), List.getElem?_eq_none (by rw [acV_len]; omega)]
/-- a pointer's cell -/
def ptE (g : Nat) : List Value := [.pointer (some ⟨g, 0, none⟩)]
def ptL (l : List Nat) : List Value := l.flatMap ptE
theorem ptE_len (x : Nat) : (ptE x).length = 1 := rfl
theorem ptL_map (l : List Nat) : ptL l = l.map fun g => .pointer (some ⟨g, 0, none⟩) := by
  induction l with
  | nil => rfl
  | cons x l ih => simp only [ptL, List.flatMap_cons, List.map_cons] at *; rw [ih]; rfl
theorem ptL_len (l : List Nat) : (ptL l).length = l.length * 1 := by rw [ptL_map]; simp
theorem ptL_get (l : List Nat) {i r : Nat} (hi : i < l.length) (hr : r < 1) : (ptL l)[i * 1 + r]? = (ptE (l.getD i default))[r]? := by
  obtain rfl : r = 0 := by omega
  rw [ptL_map]
  simp [ptE, hi]
theorem ptrs_ptL (P : Nat → Nat) (n : Nat) : ptrs P n = ptL ((List.range n).map P) := by rw [ptL_map]; simp [ptrs]
/-- the row while a function of package slices works in it: the first ones are those kept, from j on it is as it was -/
structure DelP (W : World) (g cap : Nat) (l K : List Nat) (j : Nat) (cur : Array Value) : Prop where
  blk : Blk W g 91 cur
  sz : cur.size = cap * 1
  done : ∀ t, t < K.length → ∀ r, r < 1 → cur[t * 1 + r]? = (ptE (K.getD t default))[r]?
  rest : ∀ t, j ≤ t → t < l.length → ∀ r, r < 1 → cur[t * 1 + r]? = (ptE (l.getD t default))[r]?
theorem DelP.keepG {W W' : World} {g cap j : Nat} {l K : List Nat} {cur : Array Value} (h : DelP W g cap l K j cur) (hG : G W W') : DelP W' g cap l K j cur := ⟨h.blk.keep hG, h.sz, h.done, h.rest⟩
theorem DelP.skip {W : World} {g cap j j' : Nat} {l K : List Nat} {cur : Array Value} (h : DelP W g cap l K j cur) (hj : j ≤ j') : DelP W g cap l K j' cur := ⟨h.blk, h.sz, h.done, fun t a b => h.rest t (by omega) b⟩
theorem DelP.put {W : World} {g cap j j' i : Nat} {l K : List Nat} {cur : Array Value} (h : DelP W g cap l K j cur) (hc : K.length < cap) (hj : j ≤ j') (hK : K.length < j') :
    DelP (W.setCells g (K.length * 1) (ptE (l.getD i default))) g cap l (K ++ [l.getD i default]) j' (setMany cur (K.length * 1) (ptE (l.getD i default))) := by
  have hs := h.sz
  refine ⟨Blk.setMany _ _ _ _ h.blk, by rw [size_setMany]; exact hs, ?_, ?_⟩
  · intro t ht r hr
    rw [List.length_append, List.length_singleton] at ht
    rw [many_get (by omega), ptE_len]
    by_cases h1 : t < K.length
    · rw [if_neg (by omega), h.done t h1 r hr]
      simp [List.getD_eq_getElem?_getD, List.getElem?_append_left h1]
    · obtain rfl : t = K.length := by omega
      rw [if_pos (by omega), show K.length * 1 + r - K.length * 1 = r by omega]
      simp [List.getD_eq_getElem?_getD]
  · intro t ht1 ht2 r hr
    by_cases hb : t * 1 + r < cur.size
    · rw [many_get hb, ptE_len, if_neg (by omega)]
      exact h.rest t (by omega) ht2 r hr
    · have e := h.rest t (by omega) ht2 r hr
      rw [Array.getElem?_eq_none (by omega)] at e
      rw [Array.getElem?_eq_none (by rw [size_setMany]; omega), e]
theorem DelP.start {W : World} {g cap : Nat} {l : List Nat} {cur : Array Value} (hB : Blk W g 91 cur) (hs : cur.size = cap * 1) (ht : cur.toList.take (l.length * 1) = ptL l) (k : Nat) : DelP W g cap l (l.take k) 0 cur := by
  have hget : ∀ t, t < l.length → ∀ r, r < 1 → cur[t * 1 + r]? = (ptE (l.getD t default))[r]? := fun t ht1 r hr => by
    have e := ptL_get l ht1 hr
    have h5 : (cur.toList.take (l.length * 1))[t * 1 + r]? = (ptL l)[t * 1 + r]? := by rw [ht]
    rw [List.getElem?_take_of_lt (by omega)] at h5
    rw [← Array.getElem?_toList, h5, e]
  refine ⟨hB, hs, ?_, fun t _ b => hget t b⟩
  intro t ht1 r hr
  rw [List.length_take] at ht1
  rw [hget t (by omega) r hr]
  simp [List.getD_eq_getElem?_getD, List.getElem?_take_of_lt (show t < k by omega)]
/-- the end: the kept ones' row -/
theorem DelP.fin {W W' : World} {g cap B j : Nat} {l K : List Nat} {cur : Array Value} (h : DelP W g cap l K j cur) (hg : B ≤ g) (h1 : K.length ≤ cap) (h2 : cap ≤ maxLen) (vs : List Value) (hW : W' = W.setCells g (K.length * 1) vs) :
    W'.ownsRow B 91 1 (.slice (some ⟨g, 0, none⟩) K.length cap) K.length (ptL K) := by
  subst hW
  have hs := h.sz
  refine ⟨ptL_len _, .inr ⟨g, cap, _, rfl, hg, Blk.setMany vs _ _ _ h.blk, h1, h2, by rw [size_setMany]; exact hs, ?_⟩⟩
  apply List.ext_getElem?
  intro t
  by_cases ht : t < K.length * 1
  · rw [List.getElem?_take_of_lt ht, Array.getElem?_toList, many_get (by omega), if_neg (by omega)]
    have e := h.done (t / 1) (by omega) (t % 1) (by omega)
    have e2 := ptL_get K (i := t / 1) (r := t % 1) (by omega) (by omega)
    rw [show t / 1 * 1 + t % 1 = t by omega] at e e2
    rw [e, e2]
  · rw [List.getElem?_take_eq_none (by omega), List.getElem?_eq_none (by rw [ptL_len]; omega)]
theorem clear54 (w : World) (g o n c : Nat) {cur : Array Value} (hB : Blk w g 54 cur) (hin : o + n * 8 ≤ cur.size) : ∃ vs, ∀ ty, (Builtin.clear_ #[22] ty #[.slice (some ⟨g, o, none⟩) n c]).run Tryz.prog w = .ok (.tuple #[]) (w.setCells g o vs) := by
  cases n with
  | zero => exact ⟨[], fun ty => by simp [Builtin.clear_, run_underlying Tryz.underlying22, World.setCells]⟩
  | succ m =>
    refine ⟨(Builtin.zeroCells (Value.cells (.agg #[.int .i64 0, .int .i64 0, .int .i64 0, .int .i64 0, .int .i64 0, .int .i64 0, .int .i64 0, .int .i64 0])) (m + 1)).toList, fun ty => ?_⟩
    have hl : (Builtin.zeroCells (Value.cells (.agg #[.int .i64 0, .int .i64 0, .int .i64 0, .int .i64 0, .int .i64 0, .int .i64 0, .int .i64 0, .int .i64 0])) (m + 1)).toList.length = (m + 1) * 8 := by simp [Builtin.zeroCells, Value.cells]
    have h1 : ∀ v ∈ (Builtin.zeroCells (Value.cells (.agg #[.int .i64 0, .int .i64 0, .int .i64 0, .int .i64 0, .int .i64 0, .int .i64 0, .int .i64 0, .int .i64 0])) (m + 1)).toList, v.oneCell' = true := by
      intro v hv
      simp only [Builtin.zeroCells, Array.toList_map, List.mem_map] at hv
      obtain ⟨i, hi, rfl⟩ := hv
      show (#[Value.int .i64 0, Value.int .i64 0, Value.int .i64 0, Value.int .i64 0, Value.int .i64 0, Value.int .i64 0, Value.int .i64 0, Value.int .i64 0][i % 8]!).oneCell' = true
      have h5 : i % 8 = 0 ∨ i % 8 = 1 ∨ i % 8 = 2 ∨ i % 8 = 3 ∨ i % 8 = 4 ∨ i % 8 = 5 ∨ i % 8 = 6 ∨ i % 8 = 7 := by omega
      rcases h5 with h5 | h5 | h5 | h5 | h5 | h5 | h5 | h5 <;> rw [h5] <;> rfl
    have hst := run_storeCells_cells (P := Tryz.prog) g o _ 0 w (fun j hj => by rw [Nat.add_zero]; exact blk_has hB (by omega)) (fun j hj => hB.frozen _) h1
    rw [Nat.add_zero] at hst
    have hz := Tryz.zeroValue54 w
    simp [Builtin.clear_, run_underlying Tryz.underlying22, hz, hst]
theorem clear91 (w : World) (g o n c : Nat) {cur : Array Value} (hB : Blk w g 91 cur) (hin : o + n * 1 ≤ cur.size) : ∃ vs, ∀ ty, (Builtin.clear_ #[75] ty #[.slice (some ⟨g, o, none⟩) n c]).run Tryz.prog w = .ok (.tuple #[]) (w.setCells g o vs) := by
  cases n with
  | zero => exact ⟨[], fun ty => by simp [Builtin.clear_, run_underlying Tryz.underlying75, World.setCells]⟩
  | succ m =>
    refine ⟨(Builtin.zeroCells (Value.cells (.pointer none)) (m + 1)).toList, fun ty => ?_⟩
    have hl : (Builtin.zeroCells (Value.cells (.pointer none)) (m + 1)).toList.length = (m + 1) * 1 := by simp [Builtin.zeroCells, Value.cells]
    have h1 : ∀ v ∈ (Builtin.zeroCells (Value.cells (.pointer none)) (m + 1)).toList, v.oneCell' = true := by
      intro v hv
      simp only [Builtin.zeroCells, Array.toList_map, List.mem_map] at hv
      obtain ⟨i, hi, rfl⟩ := hv
      show (#[Value.pointer none][i % 1]!).oneCell' = true
      have h5 : i % 1 = 0 := by omega
      rcases h5 with h5 <;> rw [h5] <;> rfl
    have hst := run_storeCells_cells (P := Tryz.prog) g o _ 0 w (fun j hj => by rw [Nat.add_zero]; exact blk_has hB (by omega)) (fun j hj => hB.frozen _) h1
    rw [Nat.add_zero] at hst
    have hz := Tryz.zeroValue91 w
    simp [Builtin.clear_, run_underlying Tryz.underlying75, hz, hst]
end Go.Proofs.YtabnpimidhlbiaaGreat

set_option linter.unusedSimpArgs false
set_option linter.unusedVariables false
namespace Go.Proofs.YtabnpimidhlbiaaGreat
open Go.RowKit Go.Shelf Go.Sort
attribute [local go_sem] Oper.semAt_some
theorem cpt_snoc (x y : Ac) : ∀ l : List Ac, cpt (l ++ [x, y]) = if x = y then cpt (l ++ [x]) else cpt (l ++ [x]) ++ [y]
  | [] => by
    show (if x = y then cpt [y] else x :: cpt [y]) = if x = y then [x] else [x] ++ [y]
    by_cases e : x = y
    · rw [if_pos e, if_pos e, e]; rfl
    · rw [if_neg e, if_neg e]; rfl
  | [a] => by
    have ih := cpt_snoc x y []
    show (if a = x then cpt ([] ++ [x, y]) else a :: cpt ([] ++ [x, y])) = if x = y then (if a = x then cpt ([] ++ [x]) else a :: cpt ([] ++ [x])) else (if a = x then cpt ([] ++ [x]) else a :: cpt ([] ++ [x])) ++ [y]
    rw [ih]
    generalize cpt ([] ++ [x]) = C
    by_cases e : x = y
    · rw [if_pos e, if_pos e]
    · rw [if_neg e, if_neg e]
      by_cases e2 : a = x
      · rw [if_pos e2, if_pos e2]
      · rw [if_neg e2, if_neg e2]; rfl
  | a :: b :: l => by
    have ih := cpt_snoc x y (b :: l)
    show (if a = b then cpt ((b :: l) ++ [x, y]) else a :: cpt ((b :: l) ++ [x, y])) = if x = y then (if a = b then cpt ((b :: l) ++ [x]) else a :: cpt ((b :: l) ++ [x])) else (if a = b then cpt ((b :: l) ++ [x]) else a :: cpt ((b :: l) ++ [x])) ++ [y]
    rw [ih]
    generalize cpt ((b :: l) ++ [x]) = C
    by_cases e : x = y
    · rw [if_pos e, if_pos e]
    · rw [if_neg e, if_neg e]
      by_cases e2 : a = b
      · rw [if_pos e2, if_pos e2]
      · rw [if_neg e2, if_neg e2]; rfl
theorem cpt_take (l : List Ac) {j : Nat} (h1 : 1 ≤ j) (h : j < l.length) : cpt (l.take (j + 1)) = if l.getD (j - 1) default = l.getD j default then cpt (l.take j) else cpt (l.take j) ++ [l.getD j default] := by
  obtain ⟨i, rfl⟩ : ∃ i, j = i + 1 := ⟨j - 1, by omega⟩
  have e1 : l.take (i + 1) = l.take i ++ [l.getD i default] := by
    rw [List.take_succ_eq_append_getElem (show i < l.length by omega)]; simp [show i < l.length by omega]
  have e2 : l.take (i + 1 + 1) = l.take i ++ [l.getD i default, l.getD (i + 1) default] := by
    rw [List.take_succ_eq_append_getElem h, e1, List.append_assoc]
    simp [h]
  rw [e2, cpt_snoc, e1, show i + 1 - 1 = i by omega]
theorem cpt_len : ∀ l : List Ac, (cpt l).length ≤ l.length
  | [] => Nat.le_refl _
  | [a] => Nat.le_refl _
  | a :: b :: l => by
    have ih := cpt_len (b :: l)
    unfold cpt
    by_cases e : a = b
    · rw [if_pos e]; exact Nat.le_trans ih (Nat.le_succ _)
    · rw [if_neg e]; exact Nat.succ_le_succ ih
theorem chain8 {α : Type} (A B : α) (yid ytm ykd ybk ybd ym1 ym2 ysl zid ztm zkd zbk zbd zm1 zm2 zsl : Int) : (if yid = zid then if ytm = ztm then if ykd = zkd then if ybk = zbk then if ybd = zbd then if ym1 = zm1 then if ym2 = zm2 then if ysl = zsl then A else B else B else B else B else B else B else B else B) = if acB ⟨yid, ytm, ykd, ybk, ybd, ym1, ym2, ysl⟩ ⟨zid, ztm, zkd, zbk, zbd, zm1, zm2, zsl⟩ = true then A else B := by
  unfold acB
  by_cases h0 : yid = zid
  case neg => simp [h0]
  by_cases h1 : ytm = ztm
  case neg => simp [h0, h1]
  by_cases h2 : ykd = zkd
  case neg => simp [h0, h1, h2]
  by_cases h3 : ybk = zbk
  case neg => simp [h0, h1, h2, h3]
  by_cases h4 : ybd = zbd
  case neg => simp [h0, h1, h2, h3, h4]
  by_cases h5 : ym1 = zm1
  case neg => simp [h0, h1, h2, h3, h4, h5]
  by_cases h6 : ym2 = zm2
  case neg => simp [h0, h1, h2, h3, h4, h5, h6]
  by_cases h7 : ysl = zsl
  case neg => simp [h0, h1, h2, h3, h4, h5, h6, h7]
  simp [h0, h1, h2, h3, h4, h5, h6, h7]
theorem cpt_short : ∀ l : List Ac, l.length < 2 → cpt l = l
  | [], _ => by rw [cpt]
  | [a], _ => by rw [cpt]
  | a :: b :: l, h => by simp at h; omega
def CpPost (w0 : World) (B : Nat) (f : List Ac) (e : Ending) (w' : World) : Prop := ∃ v', e = .returned v' ∧ w'.ownsRow B 54 8 v' f.length (acV f) ∧ G w0 w'
set_option maxRecDepth 100000 in
set_option maxHeartbeats 8000000 in
/-- slices.Compact at a row of acts of one's own -/
theorem compact_any (l : List Ac) (B : Nat) (v : Value) (w0 W : World) (hB : w0.heap.size ≤ B) (hG0 : G w0 W) (h : W.ownsRow B 54 8 v l.length (acV l)) (hl : l.length ≤ 1000) :
    Calls Tryz.prog 91 #[v] W (CpPost w0 B (cpt l)) := by
  have HPK : Hid (∀ w' v', w'.ownsRow B 54 8 v' (cpt l).length (acV (cpt l)) → G w0 w' → CpPost w0 B (cpt l) (.returned v') w') := fun w' v' a b => ⟨v', rfl, a, b⟩
  generalize CpPost w0 B (cpt l) = PP at *
  have HW := Lib.hid h
  obtain ⟨ra, rc, rfl⟩ := own_slice h
  clear h
  by_cases h2 : l.length < 2
  · have hc : cpt l = l := by
      exact cpt_short l h2
    have HF := Lib.hid (HPK.out W _ (by rw [hc]; exact HW.out) hG0)
    have h2i : (l.length : Int) < 2 := by omega
    clear HPK hc
    go_enter Tryz.func91, Tryz.ntmps91
    go_wp2_with fail
    first | exact HF.out | (go_ret; exact HF.out)
  · rcases HW.out.2 with ⟨_, h0⟩ | ⟨g, cap, cur0, hv, hbg, hg, h1, hm, h3, h4⟩
    · omega
    obtain ⟨rfl, -, rfl⟩ : ra = some ⟨g, 0, none⟩ ∧ True ∧ rc = cap := by
      simp at hv
      exact ⟨hv.1, trivial, hv.2⟩
    have h2i : ¬ (l.length : Int) < 2 := by omega
    have HST : Hid (∀ k W', G W W' → DelA W' g rc l (l.take k) 0 cur0) := fun k W' hG => (DelA.start hg h3 h4 k).keepG hG
    have hgB : w0.heap.size ≤ g := Nat.le_trans hB hbg
    have HZ1 : Hid (cpt (l.take 1) = l.take 1) := cpt_short (l.take 1) (by rw [List.length_take]; omega)
    have gz := hg
    have lgW : g < W.heap.size := (Array.getElem?_eq_some_iff.1 hg).1
    clear hv h4 hg h3 HW gz
    go_enter Tryz.func91, Tryz.ntmps91
    go_wp2_with fail
    go_loopw [3] (fun vk wr => ∃ k : Nat, 1 ≤ k ∧ k ≤ l.length ∧ vk = .int .i64 k ∧ Hid (cpt (l.take k) = l.take k) ∧ G W wr) (fun vk _ => l.length - (intOf vk).toNat)
    case atStart => exact ⟨1, Nat.le_refl _, by omega, rfl, HZ1.out, G.rf _⟩
    case round =>
      clear HZ1
      obtain ⟨k, hk1, hk, rfl, HK, hG⟩ := hrel
      obtain ⟨wo, rfl⟩ : ∃ wo, wo = wr := ⟨_, rfl⟩
      by_cases hlt : k < l.length
      · have hki : (k : Int) < l.length := by omega
        have hkm : (k : Int) - 1 = ((k - 1 : Nat) : Int) := by omega
        have lg : g < wo.heap.size := Nat.lt_of_lt_of_le lgW hG.size
        have HD := HST.out k wo hG
        have hy : ∀ r, r < 8 → wo.cell? ⟨g, k * 8 + r, none⟩ = (acE (l.getD k default))[r]? := fun r hr => (HD.blk.cell _).trans (HD.rest k (Nat.zero_le _) hlt r hr)
        have hz : ∀ r, r < 8 → wo.cell? ⟨g, (k - 1) * 8 + r, none⟩ = (acE (l.getD (k - 1) default))[r]? := fun r hr => (HD.blk.cell _).trans (HD.rest (k - 1) (Nat.zero_le _) (by omega) r hr)
        have HCT := Lib.hid (cpt_take l hk1 hlt)
        obtain ⟨y, hyy⟩ : ∃ y, y = l.getD k default := ⟨_, rfl⟩
        obtain ⟨z, hzz⟩ : ∃ z, z = l.getD (k - 1) default := ⟨_, rfl⟩
        rw [← hyy] at hy HCT
        rw [← hzz] at hz HCT
        have HYY := Lib.hid hyy
        have HZZ := Lib.hid hzz
        clear hyy hzz HD
        obtain ⟨yid, ytm, ykd, ybk, ybd, ym1, ym2, ysl⟩ := y
        obtain ⟨zid, ztm, zkd, zbk, zbd, zm1, zm2, zsl⟩ := z
        unfold acE Ac.v at hy hz
        obtain ⟨q, hq⟩ : ∃ q, q = k - 1 := ⟨_, rfl⟩
        have x1 : IntKind.i64.wrap ((k : Int) - 1) = (q : Nat) := by rw [IntWalk.i64_in _ (by omega)]; omega
        have x2 : IntKind.i64.wrap (((k - 1 : Nat)) : Int) = (q : Nat) := by rw [IntWalk.i64_in _ (by omega)]; omega
        have hqi : (q : Int) < l.length := by omega
        rw [← hq] at hz
        have u0 : ∀ x : GW wo, x.w.cell? ⟨g, k * 8, none⟩ = some (.int .i64 yid) := GW.cell (hy 0 (by omega)) lg
        have u1 : ∀ x : GW wo, x.w.cell? ⟨g, k * 8 + 1, none⟩ = some (.int .i64 ytm) := GW.cell (hy 1 (by omega)) lg
        have u2 : ∀ x : GW wo, x.w.cell? ⟨g, k * 8 + 2, none⟩ = some (.int .i64 ykd) := GW.cell (hy 2 (by omega)) lg
        have u3 : ∀ x : GW wo, x.w.cell? ⟨g, k * 8 + 3, none⟩ = some (.int .i64 ybk) := GW.cell (hy 3 (by omega)) lg
        have u4 : ∀ x : GW wo, x.w.cell? ⟨g, k * 8 + 4, none⟩ = some (.int .i64 ybd) := GW.cell (hy 4 (by omega)) lg
        have u5 : ∀ x : GW wo, x.w.cell? ⟨g, k * 8 + 5, none⟩ = some (.int .i64 ym1) := GW.cell (hy 5 (by omega)) lg
        have u6 : ∀ x : GW wo, x.w.cell? ⟨g, k * 8 + 6, none⟩ = some (.int .i64 ym2) := GW.cell (hy 6 (by omega)) lg
        have u7 : ∀ x : GW wo, x.w.cell? ⟨g, k * 8 + 7, none⟩ = some (.int .i64 ysl) := GW.cell (hy 7 (by omega)) lg
        have v0 : ∀ x : GW wo, x.w.cell? ⟨g, q * 8, none⟩ = some (.int .i64 zid) := GW.cell (hz 0 (by omega)) lg
        have v1 : ∀ x : GW wo, x.w.cell? ⟨g, q * 8 + 1, none⟩ = some (.int .i64 ztm) := GW.cell (hz 1 (by omega)) lg
        have v2 : ∀ x : GW wo, x.w.cell? ⟨g, q * 8 + 2, none⟩ = some (.int .i64 zkd) := GW.cell (hz 2 (by omega)) lg
        have v3 : ∀ x : GW wo, x.w.cell? ⟨g, q * 8 + 3, none⟩ = some (.int .i64 zbk) := GW.cell (hz 3 (by omega)) lg
        have v4 : ∀ x : GW wo, x.w.cell? ⟨g, q * 8 + 4, none⟩ = some (.int .i64 zbd) := GW.cell (hz 4 (by omega)) lg
        have v5 : ∀ x : GW wo, x.w.cell? ⟨g, q * 8 + 5, none⟩ = some (.int .i64 zm1) := GW.cell (hz 5 (by omega)) lg
        have v6 : ∀ x : GW wo, x.w.cell? ⟨g, q * 8 + 6, none⟩ = some (.int .i64 zm2) := GW.cell (hz 6 (by omega)) lg
        have v7 : ∀ x : GW wo, x.w.cell? ⟨g, q * 8 + 7, none⟩ = some (.int .i64 zsl) := GW.cell (hz 7 (by omega)) lg
        clear hy hz hq
        cases hEQ : acB ⟨yid, ytm, ykd, ybk, ybd, ym1, ym2, ysl⟩ ⟨zid, ztm, zkd, zbk, zbd, zm1, zm2, zsl⟩
        all_goals
          have HEQ := Lib.hid hEQ.symm
          go_upto_region 6 with fail
          refine wp_region_quiet_G (by kernel_rfl) (by kernel_rfl) ?_
          iterate 9 (quiet_step (fail))
          quiet_step (first | (rw [chain8, hEQ]; first | exact ⟨rfl, rfl⟩ | (simp only [if_true, if_false, Bool.false_eq_true]; exact ⟨rfl, rfl⟩)))
          refine wpQuiet_nil ?_
          intro _ hw'
          obtain ⟨yw, rfl⟩ := hw'
          clear u0 v0 u1 v1 u2 v2 u3 v3 u4 v4 u5 v5 u6 v6 u7 v7 lg x1 x2 hqi
          have gy := hG.t yw.g
          clear hG hEQ
          generalize yw.w = w1 at *
        · have HR : Hid (cpt (l.take (k + 1)) = l.take (k + 1)) := by
            have hne : ¬ (⟨zid, ztm, zkd, zbk, zbd, zm1, zm2, zsl⟩ : Ac) = ⟨yid, ytm, ykd, ybk, ybd, ym1, ym2, ysl⟩ := fun e => by
              have := (acB_iff _ _).2 e.symm
              rw [← HEQ.out] at this
              cases this
            show _ = _
            rw [HCT.out, if_neg hne, HK.out, List.take_succ_eq_append_getElem hlt]
            have := HYY.out
            simp [hlt] at this
            rw [this]
          clear HEQ HCT HYY HZZ HK
          go_wp2_with fail
          go_roundw
          case rel => exact ⟨k + 1, by omega, by omega, by go_num, HR.out, gy⟩
          case measure => simp [intOf] <;> omega
        · have hKE : cpt (l.take (k + 1)) = l.take k := by
            have he : (⟨zid, ztm, zkd, zbk, zbd, zm1, zm2, zsl⟩ : Ac) = ⟨yid, ytm, ykd, ybk, ybd, ym1, ym2, ysl⟩ := ((acB_iff _ _).1 HEQ.out.symm).symm
            rw [HCT.out, if_pos he, HK.out]
          have hkl : (l.take k).length = k := by rw [List.length_take]; omega
          have HS2 : Hid (DelA w1 g rc l (cpt (l.take (k + 1))) k cur0 ∧ (cpt (l.take (k + 1))).length = k) := by
            refine ⟨?_, by rw [hKE, hkl]⟩
            rw [hKE]
            exact (HST.out k w1 gy).skip (Nat.zero_le _)
          have g1 := hG0.t gy
          clear HEQ HCT HYY HZZ HK hKE hkl HST gy
          have hkc : k ≤ rc := by omega
          go_upto_region 8 with fail
          go_wp2_with fail
          go_loopw [3, 5] (fun vk vt wr => ∃ (t : Nat) (cur : Array Value), 1 ≤ t ∧ k + t ≤ l.length ∧ vt = .int .i64 t ∧ vk = .int .i64 (cpt (l.take (k + t))).length ∧ (cpt (l.take (k + t))).length + 1 ≤ k + t ∧ Hid (DelA wr g rc l (cpt (l.take (k + t))) (k + t - 1) cur) ∧ G w0 wr) (fun _ vt _ => l.length - (intOf vt).toNat)
          case atStart => exact ⟨1, cur0, Nat.le_refl _, by omega, rfl, by rw [HS2.out.2], by rw [HS2.out.2]; exact Nat.le_refl _, HS2.out.1, g1⟩
          case round =>
            clear HS2 g1 hG0
            obtain ⟨t, cur, ht1, ht, rfl, rfl, hKl, HD, hG⟩ := hrel
            obtain ⟨wi, rfl⟩ : ∃ wi, wi = wr := ⟨_, rfl⟩
            obtain ⟨kq, hkq⟩ : ∃ kq, kq = (cpt (l.take (k + t))).length := ⟨_, rfl⟩
            rw [← hkq] at hKl ⊢
            by_cases hlt2 : k + t < l.length
            · have hti : (t : Int) < (l.length - k : Nat) := by omega
              have hti2 : (t : Int) < (l.length : Int) - k := by omega
              have hql : kq < l.length := by omega
              have hqi : (kq : Int) < l.length := by omega
              have lg := HD.out.blk.lt
              have hy : ∀ r, r < 8 → wi.cell? ⟨g, k * 8 + t * 8 + r, none⟩ = (acE (l.getD (k + t) default))[r]? := fun r hr => by
                have e := (HD.out.blk.cell ((k + t) * 8 + r)).trans (HD.out.rest (k + t) (by omega) hlt2 r hr)
                rw [show (k + t) * 8 + r = k * 8 + t * 8 + r by omega] at e
                exact e
              obtain ⟨p, hp⟩ : ∃ p, p = t - 1 := ⟨_, rfl⟩
              have x1 : IntKind.i64.wrap ((t : Int) - 1) = (p : Nat) := by rw [IntWalk.i64_in _ (by omega)]; omega
              have x2 : IntKind.i64.wrap (((t - 1 : Nat)) : Int) = (p : Nat) := by rw [IntWalk.i64_in _ (by omega)]; omega
              have hz : ∀ r, r < 8 → wi.cell? ⟨g, k * 8 + p * 8 + r, none⟩ = (acE (l.getD (k + t - 1) default))[r]? := fun r hr => by
                have e := (HD.out.blk.cell ((k + t - 1) * 8 + r)).trans (HD.out.rest (k + t - 1) (by omega) (by omega) r hr)
                rw [show (k + t - 1) * 8 + r = k * 8 + p * 8 + r by omega] at e
                exact e
              have hpi : (p : Int) < (l.length - k : Nat) := by omega
              have hpi2 : (p : Int) < (l.length : Int) - k := by omega
              have HCT := Lib.hid (cpt_take l (j := k + t) (by omega) hlt2)
              have HPU := Lib.hid (fun (W : World) (hD : DelA W g rc l (cpt (l.take (k + t))) (k + t - 1) cur) => by
                have e := hD.put (i := k + t) (j' := k + t) (by rw [← hkq]; omega) (by omega) (by rw [← hkq]; omega)
                rw [← hkq] at e
                exact e)
              have HSK := Lib.hid (fun (W : World) (hD : DelA W g rc l (cpt (l.take (k + t))) (k + t - 1) cur) => hD.skip (j' := k + t) (by omega))
              obtain ⟨y, hyy⟩ : ∃ y, y = l.getD (k + t) default := ⟨_, rfl⟩
              obtain ⟨z, hzz⟩ : ∃ z, z = l.getD (k + t - 1) default := ⟨_, rfl⟩
              rw [← hyy] at hy HCT HPU
              rw [← hzz] at hz HCT
              have HKQ := Lib.hid hkq
              clear hyy hzz hp hkq
              obtain ⟨yid, ytm, ykd, ybk, ybd, ym1, ym2, ysl⟩ := y
              obtain ⟨zid, ztm, zkd, zbk, zbd, zm1, zm2, zsl⟩ := z
              unfold acE Ac.v at hy hz
              have u0 : ∀ x : GW wi, x.w.cell? ⟨g, k * 8 + t * 8, none⟩ = some (.int .i64 yid) := GW.cell (hy 0 (by omega)) lg
              have u1 : ∀ x : GW wi, x.w.cell? ⟨g, k * 8 + t * 8 + 1, none⟩ = some (.int .i64 ytm) := GW.cell (hy 1 (by omega)) lg
              have u2 : ∀ x : GW wi, x.w.cell? ⟨g, k * 8 + t * 8 + 2, none⟩ = some (.int .i64 ykd) := GW.cell (hy 2 (by omega)) lg
              have u3 : ∀ x : GW wi, x.w.cell? ⟨g, k * 8 + t * 8 + 3, none⟩ = some (.int .i64 ybk) := GW.cell (hy 3 (by omega)) lg
              have u4 : ∀ x : GW wi, x.w.cell? ⟨g, k * 8 + t * 8 + 4, none⟩ = some (.int .i64 ybd) := GW.cell (hy 4 (by omega)) lg
              have u5 : ∀ x : GW wi, x.w.cell? ⟨g, k * 8 + t * 8 + 5, none⟩ = some (.int .i64 ym1) := GW.cell (hy 5 (by omega)) lg
              have u6 : ∀ x : GW wi, x.w.cell? ⟨g, k * 8 + t * 8 + 6, none⟩ = some (.int .i64 ym2) := GW.cell (hy 6 (by omega)) lg
              have u7 : ∀ x : GW wi, x.w.cell? ⟨g, k * 8 + t * 8 + 7, none⟩ = some (.int .i64 ysl) := GW.cell (hy 7 (by omega)) lg
              have v0 : ∀ x : GW wi, x.w.cell? ⟨g, k * 8 + p * 8, none⟩ = some (.int .i64 zid) := GW.cell (hz 0 (by omega)) lg
              have v1 : ∀ x : GW wi, x.w.cell? ⟨g, k * 8 + p * 8 + 1, none⟩ = some (.int .i64 ztm) := GW.cell (hz 1 (by omega)) lg
              have v2 : ∀ x : GW wi, x.w.cell? ⟨g, k * 8 + p * 8 + 2, none⟩ = some (.int .i64 zkd) := GW.cell (hz 2 (by omega)) lg
              have v3 : ∀ x : GW wi, x.w.cell? ⟨g, k * 8 + p * 8 + 3, none⟩ = some (.int .i64 zbk) := GW.cell (hz 3 (by omega)) lg
              have v4 : ∀ x : GW wi, x.w.cell? ⟨g, k * 8 + p * 8 + 4, none⟩ = some (.int .i64 zbd) := GW.cell (hz 4 (by omega)) lg
              have v5 : ∀ x : GW wi, x.w.cell? ⟨g, k * 8 + p * 8 + 5, none⟩ = some (.int .i64 zm1) := GW.cell (hz 5 (by omega)) lg
              have v6 : ∀ x : GW wi, x.w.cell? ⟨g, k * 8 + p * 8 + 6, none⟩ = some (.int .i64 zm2) := GW.cell (hz 6 (by omega)) lg
              have v7 : ∀ x : GW wi, x.w.cell? ⟨g, k * 8 + p * 8 + 7, none⟩ = some (.int .i64 zsl) := GW.cell (hz 7 (by omega)) lg
              clear hy hz
              cases hEQ : acB ⟨yid, ytm, ykd, ybk, ybd, ym1, ym2, ysl⟩ ⟨zid, ztm, zkd, zbk, zbd, zm1, zm2, zsl⟩
              · -- another act
                have HEQ := Lib.hid hEQ.symm
                have HR : Hid (cpt (l.take (k + (t + 1))) = cpt (l.take (k + t)) ++ [⟨yid, ytm, ykd, ybk, ybd, ym1, ym2, ysl⟩]) := by
                  have hne : ¬ (⟨zid, ztm, zkd, zbk, zbd, zm1, zm2, zsl⟩ : Ac) = ⟨yid, ytm, ykd, ybk, ybd, ym1, ym2, ysl⟩ := fun e => by
                    have := (acB_iff _ _).2 e.symm
                    rw [← HEQ.out] at this
                    cases this
                  show _ = _
                  rw [show k + (t + 1) = k + t + 1 by omega, HCT.out, if_neg hne]
                go_upto_region 11 with fail
                refine wp_region_quiet_G (by kernel_rfl) (by kernel_rfl) ?_
                iterate 9 (quiet_step (fail))
                quiet_step (first | (rw [chain8, hEQ]; first | exact ⟨rfl, rfl⟩ | (simp only [if_true, if_false, Bool.false_eq_true]; exact ⟨rfl, rfl⟩)))
                refine wpQuiet_nil ?_
                intro _ hw'
                obtain ⟨yw, rfl⟩ := hw'
                have n0 := u0 yw
                have n1 := u1 yw
                have n2 := u2 yw
                have n3 := u3 yw
                have n4 := u4 yw
                have n5 := u5 yw
                have n6 := u6 yw
                have n7 := u7 yw
                clear u0 v0 u1 v1 u2 v2 u3 v3 u4 v4 u5 v5 u6 v6 u7 v7 x1 x2 hpi hpi2 lg HEQ HCT hEQ
                have HD2 := Lib.hid (HD.out.keepG yw.g)
                have gw := hG.t yw.g
                clear HD hG
                generalize yw.w = w3 at *
                have hsz := HD2.out.sz
                obtain ⟨a0, c0⟩ := Option.isSome_iff_exists.1 (blk_has HD2.out.blk (i := kq * 8) (by omega))
                obtain ⟨a1, c1⟩ := Option.isSome_iff_exists.1 (blk_has HD2.out.blk (i := kq * 8 + 1) (by omega))
                obtain ⟨a2, c2⟩ := Option.isSome_iff_exists.1 (blk_has HD2.out.blk (i := kq * 8 + 2) (by omega))
                obtain ⟨a3, c3⟩ := Option.isSome_iff_exists.1 (blk_has HD2.out.blk (i := kq * 8 + 3) (by omega))
                obtain ⟨a4, c4⟩ := Option.isSome_iff_exists.1 (blk_has HD2.out.blk (i := kq * 8 + 4) (by omega))
                obtain ⟨a5, c5⟩ := Option.isSome_iff_exists.1 (blk_has HD2.out.blk (i := kq * 8 + 5) (by omega))
                obtain ⟨a6, c6⟩ := Option.isSome_iff_exists.1 (blk_has HD2.out.blk (i := kq * 8 + 6) (by omega))
                obtain ⟨a7, c7⟩ := Option.isSome_iff_exists.1 (blk_has HD2.out.blk (i := kq * 8 + 7) (by omega))
                have z0 := HD2.out.blk.frozen (kq * 8)
                have z1 := HD2.out.blk.frozen (kq * 8 + 1)
                have z2 := HD2.out.blk.frozen (kq * 8 + 2)
                have z3 := HD2.out.blk.frozen (kq * 8 + 3)
                have z4 := HD2.out.blk.frozen (kq * 8 + 4)
                have z5 := HD2.out.blk.frozen (kq * 8 + 5)
                have z6 := HD2.out.blk.frozen (kq * 8 + 6)
                have z7 := HD2.out.blk.frozen (kq * 8 + 7)
                have lg := HD2.out.blk.lt
                go_wp2_with fail
                have hp2 := HPU.out _ HD2.out
                go_roundw
                case rel => exact ⟨t + 1, _, by omega, by omega, by go_num, by rw [HR.out, List.length_append, ← HKQ.out]; go_num, by rw [HR.out, List.length_append, ← HKQ.out, List.length_singleton]; omega, by rw [HR.out]; exact hp2, G_setCells hgB (acE ⟨yid, ytm, ykd, ybk, ybd, ym1, ym2, ysl⟩) (kq * 8) w3 gw⟩
                case measure => simp [intOf] <;> omega
              · have HEQ := Lib.hid hEQ.symm
                have HR : Hid (cpt (l.take (k + (t + 1))) = cpt (l.take (k + t))) := by
                  have he : (⟨zid, ztm, zkd, zbk, zbd, zm1, zm2, zsl⟩ : Ac) = ⟨yid, ytm, ykd, ybk, ybd, ym1, ym2, ysl⟩ := ((acB_iff _ _).1 HEQ.out.symm).symm
                  show _ = _
                  rw [show k + (t + 1) = k + t + 1 by omega, HCT.out, if_pos he]
                go_upto_region 11 with fail
                refine wp_region_quiet_G (by kernel_rfl) (by kernel_rfl) ?_
                iterate 9 (quiet_step (fail))
                quiet_step (first | (rw [chain8, hEQ]; first | exact ⟨rfl, rfl⟩ | (simp only [if_true, if_false, Bool.false_eq_true]; exact ⟨rfl, rfl⟩)))
                refine wpQuiet_nil ?_
                intro _ hw'
                obtain ⟨yw, rfl⟩ := hw'
                clear u0 v0 u1 v1 u2 v2 u3 v3 u4 v4 u5 v5 u6 v6 u7 v7 x1 x2 hpi hpi2 lg HEQ HCT hEQ
                have HD2 := Lib.hid (HSK.out _ (HD.out.keepG yw.g))
                have gw := hG.t yw.g
                clear HD hG
                generalize yw.w = w3 at *
                go_wp2_with fail
                go_roundw
                case rel => exact ⟨t + 1, cur, by omega, by omega, by go_num, by rw [HR.out, ← HKQ.out], by rw [HR.out, ← HKQ.out]; omega, by rw [HR.out]; exact HD2.out, gw⟩
                case measure => simp [intOf] <;> omega
            · have hte : k + t = l.length := by omega
              have hti : ¬ (t : Int) < (l.length - k : Nat) := by omega
              have hti2 : ¬ (t : Int) < (l.length : Int) - k := by omega
              have hsz := HD.out.sz
              have hfull : cpt (l.take (k + t)) = cpt l := by rw [hte, List.take_length]
              obtain ⟨vs, hcl⟩ := clear54 wi g (kq * 8) (l.length - kq) (rc - kq) HD.out.blk (by omega)
              have HFN := Lib.hid (HD.out.fin hbg (by omega) hm vs (W' := wi.setCells g (kq * 8) vs) (by rw [hkq]))
              rw [← hkq, hfull] at HFN
              have HGN := Lib.hid (G_setCells hgB vs (kq * 8) wi hG)
              have hqc : kq ≤ rc := by omega
              have hqn : (kq : Int) ≤ l.length := by omega
              have hqe : ¬ kq = rc := by omega
              have HF := Lib.hid (HPK.out _ _ (by rw [← hfull, ← hkq, hfull]; exact HFN.out) HGN.out)
              clear HPK hfull hte HFN HGN HD hG hkq hKl hlt2
              go_wp2_with (simp only [hcl])
              first | exact HF.out | (go_ret; exact HF.out)
      · obtain rfl : k = l.length := by omega
        have hki : ¬ ((l.length : Nat) : Int) < l.length := by omega
        have HF : Hid (PP (.returned (.slice (some ⟨g, 0, none⟩) l.length rc)) wo) := HPK.out wo _ (by
          have h9 := (HST.out l.length wo hG).fin hbg (by rw [List.length_take]; omega) hm [] (W' := wo) rfl
          rw [List.take_length] at h9
          have hk9 := HK.out
          rw [List.take_length] at hk9
          rw [hk9]
          exact h9) (hG0.t hG)
        clear HPK HK HST
        go_wp2_with fail
        first | exact HF.out | (go_ret; exact HF.out)
end Go.Proofs.YtabnpimidhlbiaaGreat

set_option linter.unusedSimpArgs false
set_option linter.unusedVariables false
namespace Go.Proofs.YtabnpimidhlbiaaGreat
open Go.RowKit Go.Shelf Go.Sort
attribute [local go_sem] Oper.semAt_some
set_option maxRecDepth 100000 in
set_option maxHeartbeats 4000000 in
theorem IdxPe_ex (C : FuncId) (eg : ∀ args w, (callFunc C args).run Tryz.prog w = .ok (.enter C args) w) (lb : Array Value) (W : World) (a : Option Addr) (cap : Nat) (n : Nat) (P : Nat → Nat) (p : Nat → Bool) (hn : n ≤ 1000) (ha : PtrAt W a n P)
    (hc : ∀ W', G W W' → ∀ i, i < n → Calls Tryz.prog C (#[.pointer (some ⟨P i, 0, none⟩)] ++ lb) W' fun e w' => e = .returned (.bool (p i)) ∧ G W' w') :
    Calls Tryz.prog 81 #[.slice a n cap, .func (.func C) #[] lb] W fun e w' => ∃ r : Int, e = .returned (.int .i64 r) ∧ ((r = -1 ∧ ∀ j, j < n → p j = false) ∨ ∃ k : Nat, r = (k : Int) ∧ k < n ∧ p k = true ∧ ∀ j, j < k → p j = false) ∧ G W w' := by
  have HC := Lib.hid hc
  clear hc
  go_enter Tryz.func81, Tryz.ntmps81
  go_wp2
  go_loopw [8] (fun i wr => ∃ k : Nat, k ≤ n ∧ i = .int .i64 k ∧ Hid (∀ j, j < k → p j = false) ∧ G W wr) (fun i _ => n - (intOf i).toNat)
  case atStart => exact ⟨0, Nat.zero_le _, rfl, fun j hj => by omega, G.rf _⟩
  case round =>
    obtain ⟨k, hk, rfl, hno, hG⟩ := hrel
    by_cases hlt : k < n
    · have hki : (k : Int) < n := by omega
      rcases ha with h | ⟨g, off, rfl, hg, hcell⟩
      · omega
      have lg := Nat.lt_of_lt_of_le hg hG.size
      have q0 := ((bcellB hG).1 g _ hg).trans (hcell k hlt)
      have HC2 := Lib.hid (HC.out wr hG k hlt)
      generalize P k = PK at *
      clear hcell HC
      cases hp : p k
      · rw [hp] at HC2
        have HP := Lib.hid hp
        clear hp
        go_wp2_with (go_at_fn C; refine (HC2.out).mono ?_; rintro e w1 ⟨rfl, hG1⟩)
        go_roundw
        case rel => exact ⟨k + 1, by omega, by go_num, fun j hj => by
          rcases Nat.lt_or_ge j k with h | h
          · exact hno.out j h
          · obtain rfl : j = k := by omega
            exact HP.out, hG.t hG1⟩
        case measure => simp [intOf] <;> omega
      · rw [hp] at HC2
        have HP := Lib.hid hp
        clear hp
        go_wp2_with (go_at_fn C; refine (HC2.out).mono ?_; rintro e w1 ⟨rfl, hG1⟩)
        go_ret
        exact ⟨k, rfl, .inr ⟨k, rfl, hlt, HP.out, hno.out⟩, hG.t hG1⟩
    · have hki : ¬ (k : Int) < n := by omega
      obtain rfl : k = n := by omega
      have HP := Lib.hid hno.out
      go_wp2
      go_ret
      exact ⟨-1, rfl, .inl ⟨rfl, HP.out⟩, hG⟩
theorem eql75 (w : World) (a : Option Addr) (n c n' c' : Nat) : (binOp .eql 75 (.slice a n c) (.slice none n' c')).run Tryz.prog w = .ok (.bool a.isNone) w := Lib.run_eql_slice_nil w 75 91 a n c n' c' Tryz.underlying75
attribute [local go_sem] eql75
theorem add_off (g off j : Nat) : (⟨g, off, none⟩ : Addr).add j = ⟨g, off + j, none⟩ := by
  unfold Addr.add
  by_cases h : j = 0
  · subst h; simp
  · simp [h]
theorem ptL_one (l : List Nat) : ∀ u ∈ ptL l, u.oneCell' = true := by
  intro u hu
  rw [ptL_map] at hu
  obtain ⟨x, _, rfl⟩ := List.mem_map.1 hu
  rfl
/-- a row of pointers, as a list of blocks -/
abbrev PtL (W : World) (a : Option Addr) (l : List Nat) : Prop := PtrAt W a l.length (fun i => l.getD i 0)
theorem ptl_cells {W : World} {g off : Nat} {l : List Nat} (h : ∀ i, i < l.length → W.cell? ⟨g, off + i, none⟩ = some (.pointer (some ⟨l.getD i 0, 0, none⟩))) : ∀ j u, (ptL l)[j]? = some u → W.cell? ((⟨g, off, none⟩ : Addr).add j) = some u := by
  intro j u hu
  rw [add_off]
  have hj : j < l.length := by
    have := (List.getElem?_eq_some_iff.1 hu).1
    rw [ptL_len] at this
    omega
  rw [h j hj, ← hu, ptL_map]
  simp [hj]
theorem own_ptl {W : World} {B : Nat} {v : Value} {l : List Nat} (h : W.ownsRow B 91 1 v l.length (ptL l)) : ∃ a c, v = .slice a l.length c ∧ PtL W a l := by
  rcases h.2 with ⟨rfl, h0⟩ | ⟨g, cap, cur, rfl, hb, hg, h1, h2, h3, h4⟩
  · exact ⟨none, 0, by rw [h0], .inl h0⟩
  · refine ⟨_, _, rfl, .inr ⟨g, 0, rfl, (Array.getElem?_eq_some_iff.1 hg).1, fun i hi => ?_⟩⟩
    have e := ptL_get l (r := 0) hi (by omega)
    have hB : Blk W g 91 cur := hg
    rw [show 0 + i = i by omega, hB.cell, ← Array.getElem?_toList]
    have h5 : (cur.toList.take (l.length * 1))[i]? = (ptL l)[i]? := by rw [h4]
    rw [List.getElem?_take_of_lt (by omega)] at h5
    rw [h5, ← show i * 1 + 0 = i by omega, e]
    simp [ptE]
def PtPost (w : World) (l : List Nat) (e : Ending) (w' : World) : Prop := ∃ v, e = .returned v ∧ w'.ownsRow w.heap.size 91 1 v l.length (ptL l) ∧ G w w'
set_option maxRecDepth 100000 in
set_option maxHeartbeats 4000000 in
/-- slices.Clone of pointers -/
theorem clone_any (l : List Nat) (a : Option Addr) (cap : Nat) (w : World) (h : PtL w a l) (hl : l.length ≤ 1000) : Calls Tryz.prog 69 #[.slice a l.length cap] w (PtPost w l) := by
  have HP : Hid (∀ w' v, w'.ownsRow w.heap.size 91 1 v l.length (ptL l) → G w w' → PtPost w l (.returned v) w') := fun w' v a b => ⟨v, rfl, a, b⟩
  generalize PtPost w l = PP at *
  cases a with
  | none =>
    have hl0 : l = [] := by
      rcases h with h | ⟨g, off, he, _⟩
      · exact List.length_eq_zero_iff.1 h
      · cases he
    subst hl0
    have HF := Lib.hid (HP.out w (.slice none 0 0) (World.ownsRow_nil _ _ _ _) (G.rf _))
    clear HP
    change Calls Tryz.prog 69 #[.slice none 0 cap] w PP
    go_enter Tryz.func69, Tryz.ntmps69
    go_wp2_with fail
    first | exact HF.out | (go_ret; exact HF.out)
  | some ad =>
    have hcell : ∀ j u, (ptL l)[j]? = some u → w.cell? (ad.add j) = some u := by
      rcases h with h | ⟨g, off, he, hg, hcell⟩
      · intro j u hu; rw [List.length_eq_zero_iff.1 h] at hu; simp [ptL] at hu
      · obtain rfl : ad = ⟨g, off, none⟩ := by simpa using he
        exact ptl_cells hcell
    have HC := Lib.hid hcell
    have HO := Lib.hid (ptL_one l)
    have HL := Lib.hid (ptL_len l)
    clear h hcell
    obtain ⟨i0, hi0, hz0, hz1, hz2⟩ := info_parts info91
    go_enter Tryz.func69, Tryz.ntmps69
    go_wp2_with (at_builtin; refine wpList_append_own _ rfl _ _ 75 rfl w.heap.size 91 i0 (.pointer none) 1 8 Tryz.underlying75 hi0 hz0 hz1 hz2 rfl (by decide) _ 0 [] rfl ?hown ad l.length cap (ptL l) rfl HL.out ?hnew HO.out (by unfold maxLen; omega) (by omega) ?hbase ?hrest)
    case hown => exact own_empty (Blk.new w 91 #[]) 1
    case hnew => exact fun j u hj => Lib.cell?_alloc_some _ (HC.out j u hj)
    case hbase => have := ((G.rf w).a (.cells #[] 91)).size; exact this
    case hrest =>
      intro v9 w9 hown9 hg9 _
      have gz : G w w9 := grow_own ((G.rf w).a (.cells #[] 91)) (own_empty (Blk.new w 91 #[]) 1) (Nat.le_refl _) hg9
      try rw [Nat.zero_add, List.nil_append] at hown9
      have HF := Lib.hid (HP.out w9 v9 hown9 gz)
      clear hown9 hg9 gz HP
      go_wp2
      first | exact HF.out | (go_ret; exact HF.out)
/-- what is kept of the first j -/
def keepP (p : Nat → Bool) (l : List Nat) (j : Nat) : List Nat := (l.take j).filter fun x => !p x
theorem keepP_succ (p : Nat → Bool) (l : List Nat) {j : Nat} (h : j < l.length) : keepP p l (j + 1) = if p (l.getD j 0) = true then keepP p l j else keepP p l j ++ [l.getD j 0] := by
  unfold keepP
  rw [List.take_add_one, List.filter_append, List.getElem?_eq_getElem h]
  have e : l.getD j 0 = l[j] := by simp [List.getD_eq_getElem?_getD, h]
  rw [e]
  cases hv : p l[j] <;> simp [hv]
theorem keepP_len (p : Nat → Bool) (l : List Nat) (j : Nat) : (keepP p l j).length ≤ j := by
  unfold keepP
  exact Nat.le_trans (List.length_filter_le _ _) (by rw [List.length_take]; omega)
theorem keepP_all (p : Nat → Bool) (l : List Nat) (j : Nat) (h : ∀ i, i < j → p (l.getD i 0) = false) (hj : j ≤ l.length) : keepP p l j = l.take j := by
  unfold keepP
  apply List.filter_eq_self.2
  intro x hx
  obtain ⟨i, hi, rfl⟩ := List.mem_iff_getElem.1 hx
  rw [List.length_take] at hi
  have := h i (by omega)
  rw [List.getElem_take]
  simp [List.getD_eq_getElem?_getD, show i < l.length by omega] at this
  simp [this]
theorem keepP_full (p : Nat → Bool) (l : List Nat) : keepP p l l.length = l.filter fun x => !p x := by unfold keepP; rw [List.take_length]
def DelPost (w0 : World) (B : Nat) (f : List Nat) (e : Ending) (w' : World) : Prop := ∃ v', e = .returned v' ∧ w'.ownsRow B 91 1 v' f.length (ptL f) ∧ G w0 w'
set_option maxRecDepth 100000 in
set_option maxHeartbeats 8000000 in
/-- slices.DeleteFunc at a row of pointers of one's own -/
theorem delete_any (C : FuncId) (eg : ∀ args w, (callFunc C args).run Tryz.prog w = .ok (.enter C args) w) (lb : Array Value) (p : Nat → Bool) (l : List Nat) (B : Nat) (v : Value) (w0 W : World) (hB : w0.heap.size ≤ B) (hG0 : G w0 W) (h : W.ownsRow B 91 1 v l.length (ptL l)) (hl : l.length ≤ 1000)
    (hc : ∀ W', G w0 W' → ∀ i, i < l.length → Calls Tryz.prog C (#[.pointer (some ⟨l.getD i 0, 0, none⟩)] ++ lb) W' fun e w' => e = .returned (.bool (p (l.getD i 0))) ∧ G W' w') :
    Calls Tryz.prog 68 #[v, .func (.func C) #[] lb] W (DelPost w0 B (l.filter fun x => !p x)) := by
  obtain ⟨a0, c0, hv0, hrow⟩ := own_ptl h
  have hi := IdxPe_ex C eg lb W a0 c0 l.length (fun i => l.getD i 0) (fun i => p (l.getD i 0)) hl hrow (fun W' hW i hi => hc W' (hG0.t hW) i hi)
  rw [← hv0] at hi
  have HI := Lib.hid hi
  clear hi
  have HPK : Hid (∀ w' v', w'.ownsRow B 91 1 v' (keepP p l l.length).length (ptL (keepP p l l.length)) → G w0 w' → DelPost w0 B (l.filter fun x => !p x) (.returned v') w') := fun w' v' a b => ⟨v', rfl, by rw [keepP_full] at a; exact a, b⟩
  generalize DelPost w0 B (l.filter fun x => !p x) = PP at *
  have HC := Lib.hid hc
  have HW := Lib.hid h
  clear hc hrow hv0 h
  go_enter Tryz.func68, Tryz.ntmps68
  go_upto_region 2 with (go_at_call 81; refine (HI.out).mono ?_; rintro e w1 ⟨r, rfl, hr, hG1⟩)
  have HO := Lib.hid (own_G HW.out hG1)
  replace hG0 := hG0.t hG1
  clear hG1
  rcases hr with ⟨rfl, hn⟩ | ⟨k, rfl, hk, hpk, hn⟩
  · have hf := keepP_all p l l.length hn (Nat.le_refl _)
    rw [List.take_length] at hf
    have HF := Lib.hid (HPK.out w1 v (by rw [hf]; exact HO.out) hG0)
    clear hn hf
    go_wp2_with fail
    first | exact HF.out | (go_ret; exact HF.out)
  · have hne : ((k : Int) == -1) = false := by simp
    rcases HO.out.2 with ⟨_, h0⟩ | ⟨g, cap, cur0, rfl, hbg, hg, h1, h2, h3, h4⟩
    · omega
    have hk1 : keepP p l (k + 1) = l.take k := by rw [keepP_succ p l hk, if_pos hpk, keepP_all p l k hn (by omega)]
    have hkl : (keepP p l (k + 1)).length = k := by rw [hk1, List.length_take]; omega
    have HST : Hid (DelP w1 g cap l (keepP p l (k + 1)) (k + 1) cur0) := by rw [hk1]; exact (DelP.start hg h3 h4 k).skip (Nat.zero_le _)
    have HKL := Lib.hid hkl
    clear hn h4 h3 hg hpk HO HW HI hk1 hkl
    have hgB : w0.heap.size ≤ g := Nat.le_trans hB hbg
    go_upto_region 4 with fail
    have hk1 : (k : Int) + 1 ≤ l.length := by omega
    go_wp2_with fail
    go_loopw [5, 6] (fun vi vj wr => ∃ (j : Nat) (cur : Array Value), j ≤ l.length ∧ vj = .int .i64 j ∧ vi = .int .i64 (keepP p l j).length ∧ Hid (DelP wr g cap l (keepP p l j) j cur) ∧ G w0 wr) (fun _ vj _ => l.length - (intOf vj).toNat)
    case atStart => exact ⟨k + 1, cur0, hk, by go_num, by rw [HKL.out], HST.out, hG0⟩
    case round =>
      clear HST hG0 HKL hk hk1 hne
      obtain ⟨j, cur, hj, rfl, rfl, HD, hG⟩ := hrel
      obtain ⟨wo, rfl⟩ : ∃ wo, wo = wr := ⟨_, rfl⟩
      have hkj := keepP_len p l j
      obtain ⟨q, hq⟩ : ∃ q, q = (keepP p l j).length := ⟨_, rfl⟩
      rw [← hq] at hkj ⊢
      by_cases hlt : j < l.length
      · have hji : (j : Int) < l.length := by omega
        have hqi : (q : Int) < l.length := by omega
        have hql : q < l.length := by omega
        have lg := HD.out.blk.lt
        have q0 : wo.cell? ⟨g, j, none⟩ = some (.pointer (some ⟨l.getD j 0, 0, none⟩)) := by
          have e := HD.out.rest j (Nat.le_refl _) hlt 0 (by omega)
          rw [show j * 1 + 0 = j by omega] at e
          rw [HD.out.blk.cell, e]
          rfl
        have HC2 := Lib.hid (HC.out wo hG j hlt)
        have HSK := Lib.hid (fun (W : World) (hD : DelP W g cap l (keepP p l j) j cur) (hp : p (l.getD j 0) = true) => And.intro (show (keepP p l (j + 1)).length = q by rw [keepP_succ p l hlt, if_pos hp, hq]) (show DelP W g cap l (keepP p l (j + 1)) (j + 1) cur by rw [keepP_succ p l hlt, if_pos hp]; exact hD.skip (Nat.le_succ _)))
        have HPU := Lib.hid (fun (W : World) (hD : DelP W g cap l (keepP p l j) j cur) (hp : p (l.getD j 0) = false) => And.intro (show (keepP p l (j + 1)).length = q + 1 by rw [keepP_succ p l hlt, if_neg (by rw [hp]; simp), List.length_append, hq]; rfl) (show ∃ cur', DelP (W.setCell ⟨g, q, none⟩ (.pointer (some ⟨l.getD j 0, 0, none⟩))) g cap l (keepP p l (j + 1)) (j + 1) cur' by
          have e := hD.put (i := j) (j' := j + 1) (by omega) (by omega) (by omega)
          rw [← hq, Nat.mul_one] at e
          rw [keepP_succ p l hlt, if_neg (by rw [hp]; simp)]
          exact ⟨_, e⟩))
        obtain ⟨y, hy⟩ : ∃ y, y = l.getD j 0 := ⟨_, rfl⟩
        rw [← hy] at q0 HC2 HSK HPU
        clear hy hq
        cases hv : p y
        · rw [hv] at HC2
          have HV := Lib.hid hv
          clear hv HSK
          go_upto_region 9 with (go_at_fn C; refine (HC2.out).mono ?_; rintro e w3 ⟨rfl, hG3⟩; clear q0 lg)
          have HD3 := Lib.hid (HD.out.keepG hG3)
          have gw := hG.t hG3
          have hsz := HD3.out.sz
          obtain ⟨u0, c0⟩ := Option.isSome_iff_exists.1 (blk_has HD3.out.blk (i := q) (by omega))
          have z0 := HD3.out.blk.frozen q
          have lg := HD3.out.blk.lt
          go_wp2_with fail
          obtain ⟨hp1, cur', hp2⟩ := HPU.out w3 HD3.out HV.out
          go_roundw
          case rel => exact ⟨j + 1, cur', by omega, by go_num, by rw [hp1]; go_num, hp2, gw.s (p := ⟨g, q, none⟩) hgB _⟩
          case measure => simp [intOf] <;> omega
        · rw [hv] at HC2
          have HV := Lib.hid hv
          clear hv HPU
          go_wp2_with (go_at_fn C; refine (HC2.out).mono ?_; rintro e w3 ⟨rfl, hG3⟩)
          have hsk := HSK.out w3 (HD.out.keepG hG3) HV.out
          go_roundw
          case rel => exact ⟨j + 1, cur, by omega, by go_num, by rw [hsk.1], hsk.2, hG.t hG3⟩
          case measure => simp [intOf] <;> omega
      · obtain rfl : j = l.length := by omega
        have hji : ¬ ((l.length : Nat) : Int) < l.length := by omega
        have hql : (q : Int) ≤ l.length := by omega
        have hsz := HD.out.sz
        obtain ⟨vs, hcl⟩ := clear91 wo g q (l.length - q) (cap - q) HD.out.blk (by omega)
        have HFN := Lib.hid (HD.out.fin hbg (by omega) h2 vs (W' := wo.setCells g q vs) (by rw [hq, Nat.mul_one]))
        rw [← hq] at HFN
        have HGN := Lib.hid (G_setCells hgB vs q wo hG)
        have hqc : q ≤ cap := by omega
        have HF := Lib.hid (fun (h : (wo.setCells g q vs).ownsRow B 91 1 (.slice (some ⟨g, 0, none⟩) q cap) q (ptL (keepP p l l.length))) => HPK.out _ _ (by rw [← hq]; exact h) HGN.out)
        have HPE : Hid (l.length - q = 0 → PP (.returned (.slice (some ⟨g, 0, none⟩) q cap)) wo) := fun _ => by
          have h9 := HD.out.fin hbg (by omega) h2 [] (W' := wo) rfl
          rw [← hq] at h9
          exact HPK.out _ _ (by rw [← hq]; exact h9) hG
        clear HC HPK hq
        have HF0 := Lib.hid (HF.out HFN.out)
        by_cases hqe : q = cap
        · have h0 : l.length - q = 0 := by omega
          have hcl0 : ∀ ty, (Builtin.clear_ #[75] ty #[.slice (some ⟨g, 0, none⟩) (l.length - q) 0]).run Tryz.prog wo = .ok (.tuple #[]) wo := fun ty => by
            rw [h0]
            simp [Builtin.clear_, run_underlying Tryz.underlying75]
          have hcl1 : ∀ ty, (Builtin.clear_ #[75] ty #[.slice (some ⟨g, 0, none⟩) 0 0]).run Tryz.prog wo = .ok (.tuple #[]) wo := fun ty => by
            simp [Builtin.clear_, run_underlying Tryz.underlying75]
          have HF2 := Lib.hid (HPE.out h0)
          clear hcl h0
          subst hqe
          go_wp2_with (simp only [hcl0, hcl1])
          first | exact HF2.out | (go_ret; exact HF2.out)
        · go_wp2_with (simp only [hcl])
          first | exact HF0.out | (go_ret; exact HF0.out)
end Go.Proofs.YtabnpimidhlbiaaGreat

set_option linter.unusedSimpArgs false
set_option linter.unusedVariables false
namespace Go.Proofs.YtabnpimidhlbiaaGreat
open Go.RowKit Go.Shelf Go.Sort
attribute [local go_sem] Oper.semAt_some
set_option maxRecDepth 100000 in
/-- append of a row of acts to a row of one's own -/
theorem app54 {W : World} (base n : Nat) (xs : List Value) (v : Value) (hown : W.ownsRow base 54 8 v n xs) (ra : Option Addr) (M : List Ac) (c : Nat) (hra : ra = none → c = 0 ∧ M.length = 0) (hrow : RowE Ac.v 8 W ra M) (hn : n + M.length ≤ 4000) (hb : base ≤ W.heap.size) (ty : TypeId) :
    ∃ v' W', (Builtin.append_ #[22, 22] ty #[v, .slice ra M.length c]).run Tryz.prog W = .ok v' W' ∧ W'.ownsRow base 54 8 v' (n + M.length) (xs ++ acV M) ∧ W.grownBy W' v.ownBlock := by
  obtain ⟨i0, hi0, hz0, hz1, hz2⟩ := info_parts info54
  cases ra with
  | none =>
    obtain ⟨rfl, h0⟩ := hra rfl
    obtain rfl : M = [] := List.length_eq_zero_iff.1 h0
    exact ⟨v, W, run_append_owned_none (P := Tryz.prog) W base 22 ty 54 i0 8 Tryz.underlying22 hi0 v n xs hown, by simpa [acV] using hown, World.grownBy.refl _ _⟩
  | some ad =>
    have hmax : n + M.length ≤ maxLen := Nat.le_trans hn (by decide)
    have hby : (n + M.length) * 64 ≤ 140737488355328 := by omega
    obtain ⟨v', W', h1, h2, h3, _⟩ := run_append_own (P := Tryz.prog) W base 22 ty 54 i0 _ 8 64 Tryz.underlying22 hi0 hz0 hz1 hz2 rfl (by decide) v n xs hown ad M.length c (acV M) (acV_len M) (fun j u hj => by
      rcases hrow with h | ⟨g, off, e, lg, hc⟩
      · obtain rfl : M = [] := List.length_eq_zero_iff.1 h
        simp [acV] at hj
      · injection e with e
        subst e
        have hjl : j < M.length * 8 := by
          have := (List.getElem?_eq_some_iff.1 hj).1
          rwa [acV_len] at this
        have h5 := hc (j / 8) (by omega) (j % 8) (by omega)
        have h6 := acV_get M (i := j / 8) (r := j % 8) (by omega) (by omega)
        rw [show j / 8 * 8 + j % 8 = j by omega] at h6
        rw [show off + j / 8 * 8 + j % 8 = off + j by omega] at h5
        rw [hj] at h6
        rw [add_off, h5, h6]
        simp [acE]) (fun u hu => by
      have : ∃ y : Ac, u ∈ acE y := by
        simp only [acV, List.mem_flatMap] at hu
        obtain ⟨y, _, h⟩ := hu
        exact ⟨y, h⟩
      obtain ⟨y, hy⟩ := this
      simp [acE, Ac.v] at hy
      rcases hy with rfl | rfl | rfl | rfl | rfl | rfl | rfl | rfl <;> rfl) hmax hby hb
    exact ⟨v', W', h1, h2, h3⟩
theorem wpList_app54 {w : World} {ops : Array Oper} {rest : List Oper} {o : Oper} {a : Act} {Q : Exit → Act → World → Prop} (hgd : o.guard = none) (s x : Operand)
    (ho : o.op = .call { callee := .builtin .append, args := #[s, x], argTypes := #[22, 22] }) (base n : Nat) (xs : List Value) (v : Value) (hs : a.eval s = v) (hown : w.ownsRow base 54 8 v n xs) (ra : Option Addr) (M : List Ac) (c : Nat) (hx : a.eval x = .slice ra M.length c) (hra : ra = none → c = 0 ∧ M.length = 0) (hrow : RowE Ac.v 8 w ra M) (hn : n + M.length ≤ 4000) (hb : base ≤ w.heap.size)
    (h : ∀ v' w', w'.ownsRow base 54 8 v' (n + M.length) (xs ++ acV M) → w.grownBy w' v.ownBlock → wpList Tryz.prog ops Q rest (a.put o.dst v') w') : wpList Tryz.prog ops Q (o :: rest) a w := by
  refine wpList_plain hgd fun K hK => ?_
  obtain ⟨v', w', hrun, h2, h3⟩ := app54 base n xs v hown ra M c hra hrow hn hb o.type
  unfold Oper.wp
  simp [execOp, ho, resolve, invoke, builtin, hs, hx, hrun, Result.andThen]
  exact hK _ _ (h v' w' h2 h3)
theorem wp_app54 {w : World} {o : Oper} {a : Act} {K : Act → World → Prop} {Q : Exit → Act → World → Prop} (s x : Operand)
    (ho : o.op = .call { callee := .builtin .append, args := #[s, x], argTypes := #[22, 22] }) (base n : Nat) (xs : List Value) (v : Value) (hs : a.eval s = v) (hown : w.ownsRow base 54 8 v n xs) (ra : Option Addr) (M : List Ac) (c : Nat) (hx : a.eval x = .slice ra M.length c) (hra : ra = none → c = 0 ∧ M.length = 0) (hrow : RowE Ac.v 8 w ra M) (hn : n + M.length ≤ 4000) (hb : base ≤ w.heap.size)
    (h : ∀ v' w', w'.ownsRow base 54 8 v' (n + M.length) (xs ++ acV M) → w.grownBy w' v.ownBlock → K (a.put o.dst v') w') : Oper.wp Tryz.prog o a w K Q := by
  obtain ⟨v', w', hrun, h2, h3⟩ := app54 base n xs v hown ra M c hra hrow hn hb o.type
  unfold Oper.wp
  simp [execOp, ho, resolve, invoke, builtin, hs, hx, hrun, Result.andThen]
  exact h v' w' h2 h3
theorem rowE_hi {W : World} {g : Nat} {L : List Ac} (h : RowE Ac.v 8 W (some ⟨g, 0, none⟩) L) (t : Nat) (ht : t ≤ L.length) : RowE Ac.v 8 W (some ⟨g, 0, none⟩) (L.take t) := by
  rcases h with h | ⟨g', off, e, lg, hc⟩
  · exact .inl (by rw [List.length_take]; omega)
  · refine .inr ⟨g', off, e, lg, fun i hi r hr => ?_⟩
    rw [List.length_take] at hi
    rw [hc i (by omega) r hr]
    congr 2
    simp [show i < t by omega]
theorem rowE_lo {W : World} {g cap : Nat} {L : List Ac} (h : RowE Ac.v 8 W (some ⟨g, 0, none⟩) L) (t : Nat) (ht : t ≤ L.length) (hc : L.length ≤ cap) : RowE Ac.v 8 W (some ⟨g, if t < cap then t * 8 else 0, none⟩) (L.drop t) := by
  by_cases h0 : t = L.length
  · exact .inl (by rw [List.length_drop]; omega)
  rw [if_pos (by omega)]
  rcases h with h | ⟨g', off, e, lg, hce⟩
  · exact .inl (by rw [List.length_drop]; omega)
  · injection e with e
    injection e with e1 e2
    subst e1
    refine .inr ⟨g, t * 8, rfl, lg, fun i hi r hr => ?_⟩
    rw [List.length_drop] at hi
    have h5 := hce (t + i) (by omega) r hr
    rw [← e2, show 0 + (t + i) * 8 + r = t * 8 + i * 8 + r by omega] at h5
    rw [h5]
    congr 2
    simp
end Go.Proofs.YtabnpimidhlbiaaGreat

