import Derived.Below
import Derived.BigQuiet
import Derived.Deep.AppendLies
import Derived.Deep.Draws
import Derived.Deep.QuietTactic
import Derived.Deep.RegionHeld
import Derived.Deep.Slices
import Derived.Ground.Names2Prog
import Derived.Ground.SlsfProg
import Derived.Ground.SlsoProg
import Derived.IntWalk
import Derived.Laws.AppendOwn
import Derived.Laws.AppendOwnNone
import Derived.Laws.OwnMore
import Derived.Laws.Rows
import Derived.Laws.StructEq
import Derived.Lib.Hide
import Derived.Lib.SlKeysI
import Derived.Lib.SliceRun
import Derived.Lib.SmallJoins
import Derived.LoopIn
import Derived.LoopNIn
import Derived.OpenShut
import Derived.OrdersHeld
import Derived.OrdersIn
import Derived.Outline
import Derived.OwnWalkIn
import Derived.ProofKit
import Derived.RangeFuncBound
import Derived.RangeFuncCalls
import Derived.RangeFuncLeaves
import Derived.RangeFuncNested
import Derived.Shelf.Abstract
import Derived.Shelf.GgSortFunc.InsertionK
import Derived.Shelf.RegionOpen
import Derived.Shelf.SlSortCmp.NoneTotal
import Derived.Shelf.SlSortCmp.WholeK
import Derived.Shelf.SlSorted.Search
import Derived.Shelf.Slices.Cells
import Derived.Shelf.Slices.CompactI
import Derived.Shelf.Slices.In.SortNone
import Derived.Shelf.Slices.SearchI
import Derived.Shelf.Small.Bits
import Derived.Shelf.Sort.Plain
import Derived.Shelf.Strconv.Itoa0
import Derived.Sort.Grow
import Derived.TacticsIn
import Derived.TacticsInMore
import Derived.Test.YtnkmcoljijmgpaaGreatProg
import Derived.WalkKit
import Derived.WalkSpells
set_option linter.unusedSimpArgs false
set_option linter.unusedVariables false
namespace Go.Proofs.YtnkmcoljijmgpaaGreat
open Go.RowKit

def isInB (n lo hi : Int) : Bool := decide (lo ≤ n) && decide (n ≤ hi)
def IntsAt (w : World) (a : Option Addr) (l : List Int) : Prop := l = [] ∨ ∃ b off, a = some ⟨b, off, none⟩ ∧ b < w.heap.size ∧ ∀ k, k < l.length → w.cell? ⟨b, off + k, none⟩ = some (.int .i64 (l.getD k 0))

theorem bcellB {B : Nat} {W w1 : World} (hb : Below B W w1) : (∀ b o, b < B → w1.cell? ⟨b, o, none⟩ = W.cell? ⟨b, o, none⟩) ∧ (∀ b o, b < B → w1.frozen? ⟨b, o, none⟩ = W.frozen? ⟨b, o, none⟩) :=
  ⟨fun b o h => hb.cell (p := ⟨b, o, none⟩) h, fun b o h => hb.frozen (p := ⟨b, o, none⟩) h⟩

theorem IntsAt.below {w w' : World} {a : Option Addr} {l : List Int} (h : IntsAt w a l) (hb : Below w.heap.size w w') : IntsAt w' a l := by
  rcases h with rfl | ⟨b, off, rfl, hlt, hc⟩
  · exact .inl rfl
  · exact .inr ⟨b, off, rfl, Nat.lt_of_lt_of_le hlt hb.size, fun k hk => (hb.cell (p := ⟨b, off + k, none⟩) hlt).trans (hc k hk)⟩

abbrev G (w w' : World) : Prop := Below w.heap.size w w'
theorem G.rf (w : World) : G w w := Below.refl _ _
theorem G.t {a b c : World} (h : G a b) (k : G b c) : G a c := h.trans (k.mono h.size)
theorem G.a {a b : World} (h : G a b) (o : Obj) : G a (b.alloc o) := Below.alloc h h.size o
theorem G.d {a b : World} (h : G a b) : G a b.drew := ⟨h.os, h.tape, h.output, h.size, h.block⟩
theorem G.s {a b : World} (h : G a b) {p : Addr} (hp : a.heap.size ≤ p.block) (v : Value) : G a (b.setCell p v) := Below.setCell h hp v

end Go.Proofs.YtnkmcoljijmgpaaGreat
set_option linter.unusedSimpArgs false
set_option linter.unusedVariables false
namespace Go.Proofs.YtnkmcoljijmgpaaGreat
open Go.RowKit
def Blk (w : World) (g : Nat) (t : TypeId) (cs : Array Value) : Prop := w.heap[g]? = some (.cells cs t (0, 0))
section
variable {w w' : World} {g : Nat} {t : TypeId} {cs : Array Value}
theorem Blk.lt (h : Blk w g t cs) : g < w.heap.size := by
  rcases Nat.lt_or_ge g w.heap.size with hlt | hge
  · exact hlt
  · unfold Blk at h; rw [Array.getElem?_eq_none hge] at h; cases h
theorem Blk.cell (h : Blk w g t cs) (i : Nat) : w.cell? ⟨g, i, none⟩ = cs[i]? := cell_of_row w g i cs t (0, 0) h
theorem Blk.frozen (h : Blk w g t cs) (i : Nat) : w.frozen? ⟨g, i, none⟩ = false := by
  unfold Blk at h
  simp [World.frozen?, h]
theorem Blk.new (w : World) (t : TypeId) (cs : Array Value) : Blk (w.alloc (.cells cs t)) w.heap.size t cs := heap_alloc_new w _
theorem Blk.new1 (w : World) (o : Obj) (t : TypeId) (cs : Array Value) : Blk ((w.alloc o).alloc (.cells cs t)) (w.heap.size + 1) t cs := by
  have := Blk.new (w.alloc o) t cs
  rwa [World.size_alloc] at this
theorem Blk.new2 (w : World) (o o' : Obj) (t : TypeId) (cs : Array Value) : Blk (((w.alloc o).alloc o').alloc (.cells cs t)) (w.heap.size + 1 + 1) t cs := by
  have := Blk.new ((w.alloc o).alloc o') t cs
  rwa [World.size_alloc, World.size_alloc] at this
theorem Blk.alloc (h : Blk w g t cs) (o : Obj) : Blk (w.alloc o) g t cs := (Below.heap_alloc w o g h.lt).trans h
theorem Blk.set_ (h : Blk w g t cs) (i : Nat) (u : Value) : Blk (w.setCell ⟨g, i, none⟩ u) g t (cs.setIfInBounds i u) := by
  unfold Blk at h ⊢
  simp [World.setCell, Array.getElem?_modify, h]
theorem Blk.far (h : Blk w g t cs) {p : Addr} (hp : g ≠ p.block) (u : Value) : Blk (w.setCell p u) g t cs := (Below.heap_setCell w p u g hp).trans h
theorem Blk.below {B : Nat} (h : Blk w g t cs) (hb : Below B w w') (hg : g < B) : Blk w' g t cs := (hb.block g hg).trans h
theorem Blk.keep (h : Blk w g t cs) (hb : G w w') : Blk w' g t cs := h.below hb h.lt
theorem Blk.grown {row : Option Nat} (h : Blk w g t cs) (hb : w.grownBy w' row) (hg : some g ≠ row) : Blk w' g t cs := (hb.block g h.lt hg).trans h
end
end Go.Proofs.YtnkmcoljijmgpaaGreat
set_option linter.unusedSimpArgs false
set_option linter.unusedVariables false
namespace Go.Proofs.YtnkmcoljijmgpaaGreat
open Go.RowKit

def isPlaceB (cols : Int) (rows : Nat) (x y : Int) : Bool := isInB x 0 (cols - 1) && isInB y 0 (rows - 1)

section
variable (north cols lofts wrong loft kind xl xh yl yh ax ay dl dh : Int) (ea : Option Addr) (el ec : Nat) (s : Value) (w : World)
end

end Go.Proofs.YtnkmcoljijmgpaaGreat
set_option linter.unusedSimpArgs false
set_option linter.unusedVariables false
namespace Go.Proofs.YtnkmcoljijmgpaaGreat
open Go.RowKit

structure Sv where
  loft : Int
  kind : Int
  xl : Int
  xh : Int
  yl : Int
  yh : Int
  ax : Int
  ay : Int
  dl : Int
  dh : Int
instance : Inhabited Sv := ⟨⟨0, 0, 0, 0, 0, 0, 0, 0, 0, 0⟩⟩

def SvCells (w : World) (b o : Nat) (s : Sv) : Prop :=
  w.cell? ⟨b, o, none⟩ = some (.int .i64 s.loft) ∧ w.cell? ⟨b, o + 1, none⟩ = some (.int .i64 s.kind) ∧ w.cell? ⟨b, o + 2, none⟩ = some (.int .i64 s.xl) ∧ w.cell? ⟨b, o + 3, none⟩ = some (.int .i64 s.xh) ∧
  w.cell? ⟨b, o + 4, none⟩ = some (.int .i64 s.yl) ∧ w.cell? ⟨b, o + 5, none⟩ = some (.int .i64 s.yh) ∧ w.cell? ⟨b, o + 6, none⟩ = some (.int .i64 s.ax) ∧ w.cell? ⟨b, o + 7, none⟩ = some (.int .i64 s.ay) ∧
  w.cell? ⟨b, o + 8, none⟩ = some (.int .i64 s.dl) ∧ w.cell? ⟨b, o + 9, none⟩ = some (.int .i64 s.dh)

def SvsAt (w : World) (a : Option Addr) (l : List Sv) : Prop := l = [] ∨ ∃ b off, a = some ⟨b, off, none⟩ ∧ b < w.heap.size ∧ ∀ k, k < l.length → SvCells w b (off + k * 10) (l.getD k default)

end Go.Proofs.YtnkmcoljijmgpaaGreat
set_option linter.unusedSimpArgs false
set_option linter.unusedVariables false
namespace Go.Proofs.YtnkmcoljijmgpaaGreat
open Go.RowKit

end Go.Proofs.YtnkmcoljijmgpaaGreat
set_option linter.unusedSimpArgs false
set_option linter.unusedVariables false
namespace Go.Proofs.YtnkmcoljijmgpaaGreat
end Go.Proofs.YtnkmcoljijmgpaaGreat
namespace Go.Proofs
open Go.Shelf
end Go.Proofs
set_option linter.unusedSimpArgs false
set_option linter.unusedVariables false
namespace Go.Proofs.YtnkmcoljijmgpaaGreat
open Go.RowKit Go.Lib Go.Sort Go.Shelf

end Go.Proofs.YtnkmcoljijmgpaaGreat
set_option linter.unusedSimpArgs false
set_option linter.unusedVariables false
namespace Go.Proofs.YtnkmcoljijmgpaaGreat
open Go.RowKit

end Go.Proofs.YtnkmcoljijmgpaaGreat
set_option linter.unusedSimpArgs false
set_option linter.unusedVariables false
namespace Go.Proofs.YtnkmcoljijmgpaaGreat
open Go.RowKit

section
variable {north cols lofts wrong ax ay bx bY : Int} {east : List Int} {svs : List Sv} {ea sa : Option Addr} {ec sc : Nat} {w : World}

end
end Go.Proofs.YtnkmcoljijmgpaaGreat
set_option linter.unusedSimpArgs false
set_option linter.unusedVariables false
namespace Go.Proofs.YtnkmcoljijmgpaaGreat
open Go.RowKit
/-- A world that has grown out of W0: the class for regions that draw their order, whose calls make memory. -/
structure GW (W0 : World) where
  w : World
  g : G W0 w
instance (W0 : World) : Nonempty (GW W0) := ⟨⟨W0, G.rf W0⟩⟩
end Go.Proofs.YtnkmcoljijmgpaaGreat
set_option linter.unusedSimpArgs false
set_option linter.unusedVariables false
namespace Go.Proofs.YtnkmcoljijmgpaaGreat
open Go.RowKit

end Go.Proofs.YtnkmcoljijmgpaaGreat

set_option linter.unusedSimpArgs false
set_option linter.unusedVariables false
namespace Go.Proofs.YtnkmcoljijmgpaaGreat
open Go.RowKit Go.Shelf
attribute [local go_sem] Oper.semAt_some

def ptV (p : Nat × Nat) : Value := .agg #[.int .i64 p.1, .int .i64 p.2]

end Go.Proofs.YtnkmcoljijmgpaaGreat
set_option linter.unusedSimpArgs false
set_option linter.unusedVariables false
namespace Go.Proofs.YtnkmcoljijmgpaaGreat
open Go.RowKit

/-- the wide fence, in a round or not -/
abbrev WR (l : Option Nat) : Fence := { Fence.wide with round := l }

def noDefer (ops : Array Oper) : Bool := ops.all fun o => match o.op with | .defer _ => false | _ => true
theorem noDefer_spec {ops : Array Oper} (h : noDefer ops = true) {i : Nat} {o : Oper} (ho : ops[i]? = some o) : ∀ c, o.op ≠ .defer c := by
  intro c hc
  obtain ⟨hi, rfl⟩ := Array.getElem?_eq_some_iff.1 ho
  have := (Array.all_eq_true.1 h) i hi
  rw [hc] at this
  cases this

section
variable {P : Program} {ops : Array Oper} {md : Region.Mode} {l : Option Nat} {n : Nat} {Q : Exit → Act → World → Prop}
theorem rowsIn_wide {row : String} {args : Array Value} {w : World} {R : Value → World → Prop} (h : Rows P row args w R) : RowsIn (WR l) n P row args w R :=
  fun c cs _ => let ⟨v, w', r, s⟩ := h c cs; ⟨v, w', r, stepsIn_wide.2 s⟩
theorem Oper.wpIn_of_wp {o : Oper} {a : Act} {w : World} {K : Act → World → Prop} (hd : ∀ c, o.op ≠ .defer c) (h : o.wp P a w K Q) : o.wpIn (WR l) n P a w K Q := by
  refine ⟨fun _ _ => trivial, ?_⟩
  have e : o.semAt (WR l).round a.eval = execOp a.eval o := by
    cases l with
    | none => exact Oper.semAt_none a.eval o
    | some l => exact Oper.semAt_some l a.eval o hd
  rw [e]
  unfold Oper.wp at h
  generalize (execOp a.eval o).run P w = r at *
  cases r with
  | ok x w' =>
    cases x <;> simp only [Oper.upon, Oper.uponIn] at h ⊢ <;> first
      | exact h
      | exact ⟨(fun hh => by cases hh), (callsIn_wide.2 h : CallsIn Fence.wide _ _ _ _ _ _)⟩
      | exact ⟨(fun hh => by cases hh), rowsIn_wide h⟩
      | exact h.elim
  | halt x w' => cases x <;> simp only [Oper.upon, Oper.uponIn] at h ⊢ <;> exact h

theorem wpAnyIn_of_wpAny (hQ : ¬ LetsOut Q) (hd : noDefer ops = true) : ∀ (fuel : Nat) (listed : Array Bool) (a : Act) (w : World), wpAny P md ops Q fuel listed a w → wpAnyIn (WR l) n P md ops Q fuel listed a w
  | 0, _, _, _, h => h
  | fuel + 1, listed, a, w, h => ⟨h.1, fun i hi => by
    have h1 := wpOp_mono (fun a' w' h' => wpAnyIn_of_wpAny hQ hd fuel _ a' w' h') (h.2 i hi)
    unfold wpOp at h1
    unfold wpOpIn
    split
    · rename_i ho; simpa [ho] using h1
    · rename_i o ho
      simp only [ho] at h1
      split
      · rename_i hw
        simp only [hw, if_true] at h1
        rcases h1 with h1 | ⟨_, h1⟩
        · exact Oper.wpIn_of_wp (noDefer_spec hd ho) h1
        · exact (hQ h1).elim
      · rename_i hw
        simp only [hw] at h1
        exact ⟨fun _ _ => trivial, h1⟩⟩

/-- a region that draws its order, in a round: from whatever gives the plain 'wpAny' -/
theorem wpIn_region_round {id : Nat} {a : Act} {w : World} (hm : P.follows .mixedOrders = true) (hQ : ¬ LetsOut Q) (hd : noDefer ops = true)
    (h : wpAny P .any ops Q ops.size (Array.replicate ops.size false) a w.drew) : (Code.region id ops true).wpIn (WR l) n P Q a w :=
  wpIn_region_any hm (wpAnyIn_of_wpAny hQ hd _ _ _ _ h)

end
end Go.Proofs.YtnkmcoljijmgpaaGreat
set_option linter.unusedSimpArgs false
set_option linter.unusedVariables false
namespace Go.Proofs.YtnkmcoljijmgpaaGreat
open Go.RowKit Go.Shelf

/-- what lay in W lies in W', but for the blocks of R -/
structure Fr (R : Nat → Prop) (W W' : World) : Prop where
  os : W'.os = W.os
  tape : W'.tape = W.tape
  output : W'.output = W.output
  size : W.heap.size ≤ W'.heap.size
  block : ∀ i, i < W.heap.size → ¬ R i → W'.heap[i]? = W.heap[i]?
section
variable {R : Nat → Prop} {A B C : World}
theorem Fr.rf (R : Nat → Prop) (A : World) : Fr R A A := ⟨rfl, rfl, rfl, Nat.le_refl _, fun _ _ _ => rfl⟩
theorem Fr.t (h : Fr R A B) (k : Fr R B C) : Fr R A C := ⟨k.os.trans h.os, k.tape.trans h.tape, k.output.trans h.output, Nat.le_trans h.size k.size, fun i hi hr => (k.block i (Nat.lt_of_lt_of_le hi h.size) hr).trans (h.block i hi hr)⟩
theorem G.fr (h : G A B) : Fr R A B := ⟨h.os, h.tape, h.output, h.size, fun i hi _ => h.block i hi⟩
theorem Fr.a (h : Fr R A B) (o : Obj) : Fr R A (B.alloc o) := h.t (G.fr ((G.rf B).a o))
theorem Fr.g (h : Fr R A B) (k : G B C) : Fr R A C := h.t k.fr
theorem Fr.s (h : Fr R A B) {p : Addr} (hp : R p.block ∨ A.heap.size ≤ p.block) (v : Value) : Fr R A (B.setCell p v) :=
  ⟨h.os, h.tape, h.output, by have := h.size; simpa [World.setCell] using this, fun i hi hr => (Below.heap_setCell B p v i (by
    rintro rfl
    rcases hp with hp | hp
    · exact hr hp
    · omega)).trans (h.block i hi hr)⟩
theorem Fr.grown (h : Fr R A B) {row : Option Nat} (hg : B.grownBy C row) (hr : ∀ g, row = some g → R g ∨ A.heap.size ≤ g) : Fr R A C :=
  ⟨hg.os.trans h.os, hg.tape.trans h.tape, hg.output.trans h.output, Nat.le_trans h.size hg.size, fun i hi hn => (hg.block i (Nat.lt_of_lt_of_le hi h.size) (fun e => by
    rcases hr i e.symm with h' | h'
    · exact hn h'
    · omega)).trans (h.block i hi hn)⟩
theorem Fr.toG (h : Fr R A B) (hr : ∀ i, i < A.heap.size → ¬ R i) : G A B := ⟨h.os, h.tape, h.output, h.size, fun i hi => h.block i hi (hr i hi)⟩
theorem Fr.blk {g : Nat} {t : TypeId} {cs : Array Value} (h : Fr R A B) (k : Blk A g t cs) (hg : ¬ R g) : Blk B g t cs := (h.block g k.lt hg).trans k
theorem Fr.keeps (h : Fr R A B) (hr : ∀ i, R i → i < A.heap.size → ∃ c t f, A.heap[i]? = some (.cells c t f)) (b : Nat) : KeepsFrom b A B :=
  ⟨h.size, fun k o _ hk ho => by
    have hlt := (Array.getElem?_eq_some_iff.1 hk).1
    rw [h.block k hlt (fun hR => by
      obtain ⟨c, t, f, e⟩ := hr k hR hlt
      rw [e] at hk; cases hk; cases ho)]
    exact hk⟩
end

theorem blk_own {β : Type} (g : Nat) (t : TypeId) (f : β → Array Value) : Own (fun s W => Blk W g t (f s)) := fun _ X _ row hs hg hrow =>
  hs.grown hg (fun e' => by obtain ⟨o, ho, hc⟩ := hrow g e'.symm; rw [show X.heap[g]? = _ from hs] at ho; cases ho; cases hc)

variable {F : Fence} {n : Nat} {P : Program}
end Go.Proofs.YtnkmcoljijmgpaaGreat
set_option linter.unusedSimpArgs false
set_option linter.unusedVariables false
namespace Go.Proofs.YtnkmcoljijmgpaaGreat
open Go.RowKit

section
variable {P : Program} {ops : Array Oper} {md : Region.Mode} {Q : Exit → Act → World → Prop} {S : World → Prop} {z : Nat}
/-- whatever order is picked; S holds behind every operation but number z, which waits for all that is taken first -/
def wpAnyZ (P : Program) (md : Region.Mode) (ops : Array Oper) (Q : Exit → Act → World → Prop) (S : World → Prop) (z : Nat) : Nat → Array Bool → Act → World → Prop
  | 0, l, a, w => Region.ready md ops l = [] ∧ Q .normal a w
  | fuel + 1, l, a, w => (Region.ready md ops l = [] → Q .normal a w) ∧
    ∀ i ∈ Region.ready md ops l, wpOp P ops Q i (fun a' w' => (i ≠ z → S w') ∧ wpAnyZ P md ops Q S z fuel (l.setIfInBounds i true) a' w') a w

/-- operation z waits for operation i, at once or by others -/
def waitsT (md : Region.Mode) (ops : Array Oper) : Nat → Nat → Nat → Bool
  | 0, _, _ => false
  | f + 1, z, i =>
    match ops[z]? with
    | some o => o.after.any fun e => Region.binds md e && (e.on == i || waitsT md ops f e.on i)
    | none => false
/-- whoever is listed, those that it waits for are -/
def closedB (md : Region.Mode) (ops : Array Oper) (l : Array Bool) : Bool :=
  (List.range ops.size).all fun k => !l.getD k false || ((ops[k]?).map fun o => o.after.all fun e => !Region.binds md e || l.getD e.on false).getD true
def Closed (md : Region.Mode) (ops : Array Oper) (l : Array Bool) : Prop := ∀ k o, ops[k]? = some o → l.getD k false = true → ∀ e ∈ o.after, Region.binds md e = true → l.getD e.on false = true
theorem closed_of_B {l : Array Bool} (h : closedB md ops l = true) : Closed md ops l := by
  intro k o ho hk e he hb
  have hlt := (Array.getElem?_eq_some_iff.1 ho).1
  have h1 := (List.all_eq_true.1 h) k (List.mem_range.2 hlt)
  rw [hk, ho] at h1
  simp only [Bool.not_true, Bool.false_or, Option.map_some, Option.getD_some, Array.all_eq_true] at h1
  obtain ⟨q, hq, rfl⟩ := Array.getElem_of_mem he
  have h2 := h1 q hq
  rw [hb] at h2
  simpa using h2
theorem Closed.set {l : Array Bool} {j : Nat} (h : Closed md ops l) (hj : j ∈ Region.ready md ops l) : Closed md ops (l.setIfInBounds j true) := by
  intro k o ho hk e he hb
  by_cases hkj : j = k
  · subst hkj
    obtain ⟨_, o', ho', hall⟩ := mem_ready.1 hj
    rw [ho] at ho'
    cases ho'
    exact getD_set_true (hall e he hb)
  · rw [getD_set_ne false hkj] at hk
    exact getD_set_true (h k o ho hk e he hb)
theorem Closed.waits {l : Array Bool} (h : Closed md ops l) : ∀ (f z i : Nat) (o : Oper), ops[z]? = some o → (∀ e ∈ o.after, Region.binds md e = true → l.getD e.on false = true) → waitsT md ops f z i = true → l.getD i false = true
  | 0, _, _, _, _, _, hw => by cases hw
  | f + 1, z, i, o, ho, hall, hw => by
    unfold waitsT at hw
    rw [ho] at hw
    simp only [Array.any_eq_true, Bool.and_eq_true, Bool.or_eq_true, beq_iff_eq] at hw
    obtain ⟨k, hk, hb, hc⟩ := hw
    have h1 := hall _ (Array.getElem_mem hk) hb
    rcases hc with rfl | hc
    · exact h1
    · cases hq : ops[(o.after[k]).on]? with
      | none => unfold waitsT at hc; cases f <;> simp [hq] at hc
      | some o' => exact Closed.waits h f _ i o' hq (h _ o' hq h1) hc

theorem not_ready_of_waits {i : Nat} {l : Array Bool} (hcl : Closed md ops l) (hw : waitsT md ops 40 z i = true) (hi : i ∈ Region.ready md ops l) : z ∉ Region.ready md ops l := by
  intro hz
  obtain ⟨_, o, ho, hall⟩ := mem_ready.1 hz
  obtain ⟨hun, _, _, _⟩ := mem_ready.1 hi
  have h1 := hcl.waits 40 z i o ho hall hw
  cases hq : l[i]? <;> simp [hq] at hun h1
  rw [hun] at h1
  cases h1

/-- Q, but False at a panic -/
def NoP (Q : Exit → Act → World → Prop) : Exit → Act → World → Prop
  | .panic _, _, _ => False
  | e, a, w => Q e a w
theorem NoP.imp : ∀ (e : Exit) (a : Act) (w : World), NoP Q e a w → Q e a w := fun e a w h => by
  cases e <;> first | exact h | exact (h : False).elim
theorem NoP.lets (h : ¬ LetsOut Q) : ¬ LetsOut (NoP Q) := fun ⟨a, w, q⟩ => h ⟨a, w, q⟩
theorem wpAnyZ_done {l : Array Bool} {a : Act} {w : World} (hr : Region.ready md ops l = []) (h : Q .normal a w) : ∀ fuel, wpAnyZ P md ops (NoP Q) S z fuel l a w
  | 0 => ⟨hr, h⟩
  | _ + 1 => ⟨fun _ => h, by rw [hr]; simp⟩
end

end Go.Proofs.YtnkmcoljijmgpaaGreat
set_option linter.unusedSimpArgs false
set_option linter.unusedVariables false
namespace Go.Proofs.YtnkmcoljijmgpaaGreat
open Go.RowKit

section
variable {P : Program} {ops : Array Oper} {md : Region.Mode} {Q : Exit → Act → World → Prop} {S : World → Prop} {z : Nat}
/-- whatever order is picked; S holds as long as operation z is not listed -/
def wpAnyY (P : Program) (md : Region.Mode) (ops : Array Oper) (Q : Exit → Act → World → Prop) (S : World → Prop) (z : Nat) : Nat → Array Bool → Act → World → Prop
  | 0, l, a, w => Region.ready md ops l = [] ∧ Q .normal a w
  | fuel + 1, l, a, w => (Region.ready md ops l = [] → Q .normal a w) ∧
    ∀ i ∈ Region.ready md ops l, wpOp P ops Q i (fun a' w' => ((l.setIfInBounds i true).getD z false = false → S w') ∧ wpAnyY P md ops Q S z fuel (l.setIfInBounds i true) a' w') a w

theorem wpAny_of_Y : ∀ (fuel : Nat) (l : Array Bool) (a : Act) (w : World), wpAnyY P md ops Q S z fuel l a w → wpAny P md ops Q fuel l a w
  | 0, _, _, _, h => h
  | fuel + 1, _, _, _, h => ⟨h.1, fun i hi => wpOp_mono (fun _ _ h' => wpAny_of_Y fuel _ _ _ h'.2) (h.2 i hi)⟩

theorem wpAnyY_first {i : Nat} {oi : Oper} {v : Value} (hi : ops[i]? = some oi) (hsel : Region.noSelect ops = true) (hz : i ≠ z) (hw : waitsT md ops 40 z i = true)
    (hQ : ∀ c a w, Q (.panic c) (a.put oi.dst v) w → Q (.panic c) a w) :
    ∀ (fuel : Nat) (l : Array Bool) (a : Act) (w : World), Closed md ops l → l.getD z false = false → (∀ j oj, ops[j]? = some oj → j ≠ i → l.getD j true = false → (∀ e ∈ oj.after, Region.binds md e = true → e.on ≠ i) → oi.apart ops oj = true) →
      i ∈ Region.ready md ops l → YieldsIf P ops S oi v a → S w → wpAnyY P md ops Q S z fuel (l.setIfInBounds i true) (a.put oi.dst v) w → wpAnyY P md ops Q S z (fuel + 1) l a w
  | fuel, l, a, w, hcl, hlz, hfree, hr, hy, hS, H => by
    refine ⟨fun h => absurd (h ▸ hr) (by simp), fun j hj => ?_⟩
    by_cases hji : j = i
    · subst hji
      exact hy.wpOp hi hS ⟨fun _ => hS, H⟩
    have hj2 := ready_mono hj hji
    cases fuel with
    | zero => rw [H.1] at hj2; cases hj2
    | succ fuel =>
      have hjz : j ≠ z := fun e => not_ready_of_waits hcl hw hr (e ▸ hj)
      have hlz' : (l.setIfInBounds j true).getD z false = false := by rw [getD_set_ne false hjz]; exact hlz
      obtain ⟨hjun, oj, hoj, hall⟩ := mem_ready.1 hj
      have hno : ∀ e ∈ oj.after, Region.binds md e = true → e.on ≠ i := fun e he hb heq => by
        have h1 := hall e he hb
        have h0 := (mem_ready.1 hr).1
        rw [heq] at h1
        cases hq : l[i]? <;> simp [hq] at h0 h1
        rw [h0] at h1
        cases h1
      have h2 := wpOp_putIf hoj (hfree j oj hoj hji hjun hno) (fun cs b => Region.noSelect_spec hsel i oi cs b hi) (fun cs b => Region.noSelect_spec hsel j oj cs b hoj) hQ hy (H.2 j hj2)
      have hlz2 : ((l.setIfInBounds i true).setIfInBounds j true).getD z false = false := by rw [getD_set_ne false hjz, getD_set_ne false hz]; exact hlz
      refine wpOp_mono (fun a' w' h3 => ⟨fun _ => h3.2.1 hlz2, ?_⟩) h2
      refine wpAnyY_first hi hsel hz hw hQ fuel _ a' w' (hcl.set hj) hlz' (fun k ok hk hki hun hn => hfree k ok hk hki ?_ hn) (ready_mono hr (Ne.symm hji)) h3.1 (h3.2.1 hlz2) ?_
      · by_cases hjk : j = k
        · exact hjk ▸ hjun
        · rwa [getD_set_ne true hjk] at hun
      · rw [Array.setIfInBounds_comm _ _ hji]
        exact h3.2.2

/-- .. at once, or by others: asked in this order (the kernel is quick at the first) -/
def waitsD (md : Region.Mode) (ops : Array Oper) (z i : Nat) : Bool :=
  (match ops[z]? with | some o => o.after.any fun e => Region.binds md e && e.on == i | none => false) || waitsT md ops 40 z i
theorem waitsD_T {i : Nat} (h : waitsD md ops z i = true) : waitsT md ops 40 z i = true := by
  unfold waitsD at h
  rw [Bool.or_eq_true] at h
  rcases h with h | h
  · unfold waitsT
    cases ho : ops[z]? with
    | none => rw [ho] at h; cases h
    | some o =>
      rw [ho] at h
      simp only [Array.any_eq_true, Bool.and_eq_true, beq_iff_eq] at h ⊢
      obtain ⟨k, hk, hb, he⟩ := h
      exact ⟨k, hk, hb, by simp [he]⟩
  · exact h
theorem wpAnyY_take {i : Nat} {oi : Oper} {v : Value} {fuel : Nat} {l : Array Bool} {a : Act} {w : World} (hi : ops[i]? = some oi) (hs : Region.noSelect ops = true) (hf : Region.free md ops l i = true)
    (hr : (Region.ready md ops l).contains i = true) (hw : (decide (i ≠ z) && (waitsD md ops z i && (closedB md ops l && !l.getD z false))) = true) (hQ : ∀ c a w, Q (.panic c) (a.put oi.dst v) w → Q (.panic c) a w) (hy : YieldsIf P ops S oi v a) (hS : S w)
    (h : wpAnyY P md ops Q S z fuel (l.setIfInBounds i true) (a.put oi.dst v) w) : wpAnyY P md ops Q S z (fuel + 1) l a w := by
  simp only [Bool.and_eq_true, decide_eq_true_eq, Bool.not_eq_true'] at hw
  exact wpAnyY_first hi hs hw.1 (waitsD_T hw.2.1) hQ fuel l a w (closed_of_B hw.2.2.1) hw.2.2.2 (Region.free_spec hi hf) (by simpa using hr) hy hS h

/-- one operation alone may come up, and z is listed or is this one -/
theorem wpAnyY_one {i : Nat} {o : Oper} {fuel : Nat} {l : Array Bool} {a : Act} {w : World} (hr : Region.ready md ops l = [i]) (ho : ops[i]? = some o) (hz : (l.setIfInBounds i true).getD z false = true)
    (h : ∀ K' : Act → World → Prop, Shut (∀ a w, wpAnyY P md ops Q S z fuel (l.setIfInBounds i true) a w → K' a w) → if Region.wanted o (yielded ops a.tmps) = true then Oper.wp P o a w K' Q else K' (a.put o.dst undef) w) :
    wpAnyY P md ops Q S z (fuel + 1) l a w := by
  refine ⟨fun h0 => (by rw [hr] at h0; cases h0), fun j hj => ?_⟩
  rw [hr] at hj
  obtain rfl : j = i := by simpa using hj
  exact wpOp_step ho (fun K' hK => h K' (fun a w hW => hK a w ⟨fun e => (by rw [hz] at e; cases e), hW⟩))
/-- .. where S is told -/
theorem wpAnyY_oneS {i : Nat} {o : Oper} {fuel : Nat} {l : Array Bool} {a : Act} {w : World} (hr : Region.ready md ops l = [i]) (ho : ops[i]? = some o)
    (h : ∀ K' : Act → World → Prop, Shut (∀ a w, S w → (S w → wpAnyY P md ops Q S z fuel (l.setIfInBounds i true) a w) → K' a w) → if Region.wanted o (yielded ops a.tmps) = true then Oper.wp P o a w K' Q else K' (a.put o.dst undef) w) :
    wpAnyY P md ops Q S z (fuel + 1) l a w := by
  refine ⟨fun h0 => (by rw [hr] at h0; cases h0), fun j hj => ?_⟩
  rw [hr] at hj
  obtain rfl : j = i := by simpa using hj
  exact wpOp_step ho (fun K' hK => h K' (fun a w hS hW => hK a w ⟨fun _ => hS, hW hS⟩))
end
theorem wpAnyY_done {P : Program} {ops : Array Oper} {md : Region.Mode} {Q : Exit → Act → World → Prop} {S : World → Prop} {z : Nat} {l : Array Bool} {a : Act} {w : World} (hr : Region.ready md ops l = []) (h : Q .normal a w) : ∀ fuel, wpAnyY P md ops (NoP Q) S z fuel l a w
  | 0 => ⟨hr, h⟩
  | _ + 1 => ⟨fun _ => h, by rw [hr]; simp⟩
theorem wpIn_region_Y {P : Program} {Q : Exit → Act → World → Prop} {l : Option Nat} {n : Nat} {id : Nat} {a : Act} {w : World} {S : World → Prop} {l' : List Oper} (z N : Nat) (hN : l'.length = N) (hm : P.follows .mixedOrders = true) (hQ : ¬ LetsOut Q) (hd : noDefer l'.toArray = true) (hS : S w.drew)
    (h : S w.drew → wpAnyY P .any l'.toArray (NoP Q) S z N (Array.replicate N false) a w.drew) : (Code.region id l'.toArray true).wpIn (WR l) n P Q a w :=
  Code.wpIn_mono NoP.imp (wpIn_region_round hm (NoP.lets hQ) hd (wpAny_of_Y _ _ _ _ (by subst hN; simpa using h hS)))
theorem wp_region_Y {P : Program} {Q : Exit → Act → World → Prop} {id : Nat} {a : Act} {w : World} {S : World → Prop} {l' : List Oper} (z N : Nat) (hN : l'.length = N) (hm : P.follows .mixedOrders = true) (hS : S w.drew)
    (h : S w.drew → wpAnyY P .any l'.toArray (NoP Q) S z N (Array.replicate N false) a w.drew) : (Code.region id l'.toArray true).wp P Q a w :=
  Code.wp_mono NoP.imp (wp_region_any hm (wpAny_of_Y _ _ _ _ (by subst hN; simpa using h hS)))
end Go.Proofs.YtnkmcoljijmgpaaGreat
set_option linter.unusedSimpArgs false
set_option linter.unusedVariables false
namespace Go.Proofs.YtnkmcoljijmgpaaGreat
open Go.RowKit Go.Shelf
attribute [local go_sem] Oper.semAt_some

theorem wide_fn (f : Nat) : Fence.wide.fn f = True := rfl
theorem wide_dep : Fence.wide.depth = none := rfl
theorem wideR_fn (l f : Nat) : (Fence.wide.inRound l).fn f = True := rfl
theorem wideR_dep (l : Nat) : (Fence.wide.inRound l).depth = none := rfl
attribute [local go_sem] wide_fn wide_dep wideR_fn wideR_dep ptV

structure Sp where
  x : Nat
  y : Nat
  more : Nat
instance : Inhabited Sp := ⟨⟨0, 0, 0⟩⟩
def oc (north cols : Int) (E : Value) (lofts : Int) (S : Value) (wrong : Int) (sum : Nat) (sl : Nat → Value) : Array Value :=
  #[.int .i64 north, .int .i64 cols, E, .int .i64 lofts, S, .int .i64 wrong, .int .i64 sum, sl 0, sl 1, sl 2, sl 3, sl 4, sl 5, sl 6, sl 7]
section
variable (north : Int) (cols : Nat) (east : List Int) (svs : List Sv)
end

theorem Fr.t2 {R R' : Nat → Prop} {A B C : World} (h : Fr R A B) (k : Fr R' B C) (hr : ∀ i, i < A.heap.size → R' i → R i) : Fr R A C :=
  ⟨k.os.trans h.os, k.tape.trans h.tape, k.output.trans h.output, Nat.le_trans h.size k.size, fun i hi hn => (k.block i (Nat.lt_of_lt_of_le hi h.size) (fun h' => hn (hr i hi h'))).trans (h.block i hi hn)⟩
theorem ownsRow_kept' {W W' : World} {base : Nat} {e : TypeId} {size : Nat} {v : Value} {k : Nat} {xs : List Value} {row : Option Nat} (h : W.ownsRow base e size v k xs) (hg : W.grownBy W' row)
    (hrow : ∀ r, row = some r → ∃ o : Obj, W.heap[r]? = some o ∧ o.isCells = false) : W'.ownsRow base e size v k xs := by
  refine h.kept hg ?_
  rcases h.2 with ⟨rfl, _⟩ | ⟨g, cap, cur, rfl, _, hgb, _⟩
  · exact .inl rfl
  · refine .inr fun e' => ?_
    obtain ⟨o, ho, hc⟩ := hrow g (by simpa [Value.ownBlock] using e'.symm)
    rw [hgb] at ho; cases ho; cases hc

theorem grownBy_set (W : World) (a : Addr) (v : Value) : W.grownBy (W.setCell a v) (some a.block) :=
  ⟨rfl, rfl, rfl, (KeepsWalks.setCell W _ v).size, fun k _ hk => Below.heap_setCell _ _ _ k (fun e => hk (by rw [e]))⟩
theorem own_ne {W : World} {g : Nat} {t e : TypeId} {cs : Array Value} {base size k : Nat} {v : Value} {xs : List Value} (hr : W.ownsRow base e size v k xs) (h : Blk W g t cs) (hte : t ≠ e) : some g ≠ v.ownBlock := by
  rcases hr.2 with ⟨rfl, _⟩ | ⟨g', cap, cur, rfl, _, hgb, _⟩
  · simp [Value.ownBlock]
  · intro e'
    obtain rfl : g = g' := by simpa [Value.ownBlock] using e'
    have := (show W.heap[g]? = _ from h).symm.trans hgb
    simp at this
    exact hte this.2
theorem own_base {W : World} {g : Nat} {e : TypeId} {base size k : Nat} {v : Value} {xs : List Value} (hr : W.ownsRow base e size v k xs) (hg : v.ownBlock = some g) : base ≤ g := by
  rcases hr.2 with ⟨rfl, _⟩ | ⟨g', cap, cur, rfl, hb, hgb, _⟩
  · simp [Value.ownBlock] at hg
  · obtain rfl : g' = g := by simpa [Value.ownBlock] using hg
    exact hb
theorem own_cells {W : World} {g : Nat} {e : TypeId} {base size k : Nat} {v : Value} {xs : List Value} (hr : W.ownsRow base e size v k xs) (hg : v.ownBlock = some g) : ∃ c t f, W.heap[g]? = some (.cells c t f) := by
  rcases hr.2 with ⟨rfl, _⟩ | ⟨g', cap, cur, rfl, hb, hgb, _⟩
  · simp [Value.ownBlock] at hg
  · obtain rfl : g' = g := by simpa [Value.ownBlock] using hg
    exact ⟨_, _, _, hgb⟩
end Go.Proofs.YtnkmcoljijmgpaaGreat
set_option linter.unusedSimpArgs false
set_option linter.unusedVariables false
namespace Go.Proofs.YtnkmcoljijmgpaaGreat
open Go.RowKit Go.Shelf
attribute [local go_sem] Oper.semAt_some wide_fn wide_dep

end Go.Proofs.YtnkmcoljijmgpaaGreat
set_option linter.unusedSimpArgs false
set_option linter.unusedVariables false
namespace Go.Proofs.YtnkmcoljijmgpaaGreat
open Go.RowKit Go.Shelf
attribute [local go_sem] Oper.semAt_some wide_fn wide_dep wideR_fn wideR_dep

section
variable {F : Fence} {n : Nat} {P : Program}
end

theorem own_weaken {W : World} {base base' : Nat} {e : TypeId} {size k : Nat} {v : Value} {xs : List Value} (h : W.ownsRow base e size v k xs) (hb : base' ≤ base) : W.ownsRow base' e size v k xs := by
  refine ⟨h.1, ?_⟩
  rcases h.2 with h' | ⟨g, cap, cur, h1, h2, h3⟩
  · exact .inl h'
  · exact .inr ⟨g, cap, cur, h1, Nat.le_trans hb h2, h3⟩
theorem cell_one_new (w : World) (t : TypeId) (v : Value) : ∀ j u, [v][j]? = some u → (w.alloc (.cells #[v] t)).cell? ((⟨w.heap.size, 0, none⟩ : Addr).add j) = some u :=
  World.news_of_block (cs := #[v]) (t := t) (fr := (0, 0)) (heap_alloc_new w _)
theorem info3 : (Tryz.prog.info? 3).map (fun i => (i.zero, i.size, i.bytes)) = some (some (.int .i64 0), 1, 8) := by kernel_rfl

end Go.Proofs.YtnkmcoljijmgpaaGreat
set_option linter.unusedSimpArgs false
set_option linter.unusedVariables false
namespace Go.Proofs.YtnkmcoljijmgpaaGreat
open Go.RowKit Go.Shelf

/-- what an iterator does by itself: it may lay blocks, and write those cells of its own (from B on) that are of a type in T -/
structure Kt (T : TypeId → Prop) (B : Nat) (X Y : World) : Prop where
  os : Y.os = X.os
  tape : Y.tape = X.tape
  output : Y.output = X.output
  size : X.heap.size ≤ Y.heap.size
  block : ∀ i o, X.heap[i]? = some o → (i < B ∨ ∀ c t f, o = .cells c t f → ¬ T t) → Y.heap[i]? = some o
section
variable {T : TypeId → Prop} {B : Nat} {X Y Z : World}
theorem Kt.rf (T : TypeId → Prop) (B : Nat) (X : World) : Kt T B X X := ⟨rfl, rfl, rfl, Nat.le_refl _, fun _ _ h _ => h⟩
theorem Kt.t (h : Kt T B X Y) (k : Kt T B Y Z) : Kt T B X Z := ⟨k.os.trans h.os, k.tape.trans h.tape, k.output.trans h.output, Nat.le_trans h.size k.size, fun i o hi hc => k.block i o (h.block i o hi hc) hc⟩
theorem G.kt (h : G X Y) : Kt T B X Y := ⟨h.os, h.tape, h.output, h.size, fun i o hi _ => (h.block i (Array.getElem?_eq_some_iff.1 hi).1).trans hi⟩
theorem Kt.blk {g : Nat} {t : TypeId} {cs : Array Value} (h : Kt T B X Y) (b : Blk X g t cs) (hb : g < B ∨ ¬ T t) : Blk Y g t cs :=
  h.block g _ b (hb.elim .inl (fun ht => .inr (fun c t' f e => by cases e; exact ht)))
end
def StableT {β : Type} (T : TypeId → Prop) (B : Nat) (J : β → World → Prop) : Prop := ∀ s X Y, J s X → Kt T B X Y → J s Y

/-- the loop's record and the block for the rounds' deferred calls -/
def Bk (l D : Nat) (r : Loop) (W : World) : Prop := W.heap[l]? = some (.loop r) ∧ W.heap[D]? = some (.deferred (some []))
section
variable {l D B : Nat} {r r' : Loop} {X Y : World} {T : TypeId → Prop}
theorem Bk.kt (h : Bk l D r X) (k : Kt T B X Y) : Bk l D r Y := ⟨k.block _ _ h.1 (.inr (fun _ _ _ e => by cases e)), k.block _ _ h.2 (.inr (fun _ _ _ e => by cases e))⟩
theorem Bk.keeps (h : Bk l D r X) (k : KeepsFrom B X Y) (hl : B ≤ l) (hD : B ≤ D) : Bk l D r Y := ⟨k.same _ _ hl h.1 rfl, k.same _ _ hD h.2 rfl⟩
theorem Bk.put (h : Bk l D r X) (hn : D ≠ l) (r' : Loop) : Bk l D r' (X.putObj l (.loop r')) := ⟨World.putObj_heap_same (Array.getElem?_eq_some_iff.1 h.1).1, (World.putObj_heap_other hn).trans h.2⟩
end

section
variable {F : Fence} {n : Nat} {P : Program}
end
end Go.Proofs.YtnkmcoljijmgpaaGreat
set_option linter.unusedSimpArgs false
set_option linter.unusedVariables false
namespace Go.Proofs.YtnkmcoljijmgpaaGreat
open Go.RowKit

end Go.Proofs.YtnkmcoljijmgpaaGreat
set_option linter.unusedSimpArgs false
set_option linter.unusedVariables false
namespace Go.Proofs.YtnkmcoljijmgpaaGreat
open Go.RowKit

/-- the ways with one more loft, of whose spots l are counted -/
def pw (sp : Int) (l : List Nat) (f : Nat → Nat) (t : Nat) : Nat := if (t : Int) ≤ sp then (l.map fun m => if m ≤ t then f (t - m) else 0).sum else 0
def ways (sp : Int) (rows : Nat → List Sp) : Nat → Nat → Nat
  | 0 => fun t => if t = 0 then 1 else 0
  | k + 1 => pw sp ((rows k).map Sp.more) (ways sp rows k)
def wc (f : Nat → Nat) : Array Value := #[.int .i64 (f 0), .int .i64 (f 1), .int .i64 (f 2), .int .i64 (f 3)]
end Go.Proofs.YtnkmcoljijmgpaaGreat
set_option linter.unusedSimpArgs false
set_option linter.unusedVariables false
namespace Go.Proofs.YtnkmcoljijmgpaaGreat
open Go.RowKit

end Go.Proofs.YtnkmcoljijmgpaaGreat
set_option linter.unusedSimpArgs false
set_option linter.unusedVariables false
namespace Go.Proofs.YtnkmcoljijmgpaaGreat
open Go.RowKit

end Go.Proofs.YtnkmcoljijmgpaaGreat

set_option linter.unusedSimpArgs false
set_option linter.unusedVariables false
namespace Go.Proofs.YtnkmcoljijmgpaaGreat
open Go.RowKit Go.Shelf
attribute [local go_sem] Oper.semAt_some wide_fn wide_dep wideR_fn wideR_dep

abbrev At := Nat → Nat × Nat
def pc (f : At) : Array Value := #[.int .i64 (f 0).1, .int .i64 (f 0).2, .int .i64 (f 1).1, .int .i64 (f 1).2, .int .i64 (f 2).1, .int .i64 (f 2).2, .int .i64 (f 3).1, .int .i64 (f 3).2,
  .int .i64 (f 4).1, .int .i64 (f 4).2, .int .i64 (f 5).1, .int .i64 (f 5).2, .int .i64 (f 6).1, .int .i64 (f 6).2, .int .i64 (f 7).1, .int .i64 (f 7).2]
/-- every block of cells but those of R lies as it lay -/
structure KC (R : Nat → TypeId → Prop) (W W' : World) : Prop where
  size : W.heap.size ≤ W'.heap.size
  block : ∀ i c t f, W.heap[i]? = some (.cells c t f) → ¬ R i t → W'.heap[i]? = some (.cells c t f)
section
variable {R : Nat → TypeId → Prop} {A B C : World}
end
section
variable {O g : Nat} {gc oc0 : Array Value} {lofts : Nat} {slv : Nat → Value} {rows : Nat → List Sp} {W W' : World}
end

end Go.Proofs.YtnkmcoljijmgpaaGreat
set_option linter.unusedSimpArgs false
set_option linter.unusedVariables false
namespace Go.Proofs.YtnkmcoljijmgpaaGreat
open Go.RowKit Go.Shelf
attribute [local go_sem] Oper.semAt_some wide_fn wide_dep wideR_fn wideR_dep

section
variable {P : Program} {ops : Array Oper} {md : Region.Mode} {Q : Exit → Act → World → Prop} {S : World → Prop} {z : Nat}
theorem wpAnyY_oneW {i : Nat} {o : Oper} {fuel : Nat} {l : Array Bool} {a : Act} {w : World} (hr : Region.ready md ops l = [i]) (ho : ops[i]? = some o) (hz : (l.setIfInBounds i true).getD z false = true) (hw : Region.wanted o (yielded ops a.tmps) = true)
    (h : ∀ K' : Act → World → Prop, Shut (∀ a w, wpAnyY P md ops Q S z fuel (l.setIfInBounds i true) a w → K' a w) → Oper.wp P o a w K' Q) :
    wpAnyY P md ops Q S z (fuel + 1) l a w := wpAnyY_one hr ho hz (fun K' hK => by rw [if_pos hw]; exact h K' hK)
theorem wpAnyY_oneSW {i : Nat} {o : Oper} {fuel : Nat} {l : Array Bool} {a : Act} {w : World} (hr : Region.ready md ops l = [i]) (ho : ops[i]? = some o) (hw : Region.wanted o (yielded ops a.tmps) = true)
    (h : ∀ K' : Act → World → Prop, Shut (∀ a w, S w → (S w → wpAnyY P md ops Q S z fuel (l.setIfInBounds i true) a w) → K' a w) → Oper.wp P o a w K' Q) :
    wpAnyY P md ops Q S z (fuel + 1) l a w := wpAnyY_oneS hr ho (fun K' hK => by rw [if_pos hw]; exact h K' hK)
theorem wpAnyY_oneSU {i : Nat} {o : Oper} {fuel : Nat} {l : Array Bool} {a : Act} {w : World} (hr : Region.ready md ops l = [i]) (ho : ops[i]? = some o) (hw : Region.wanted o (yielded ops a.tmps) = false) (hS : S w)
    (h : wpAnyY P md ops Q S z fuel (l.setIfInBounds i true) (a.put o.dst undef) w) :
    wpAnyY P md ops Q S z (fuel + 1) l a w := wpAnyY_oneS hr ho (fun K' hK => by rw [if_neg (by rw [hw]; simp)]; exact hK.out _ _ hS (fun _ => h))
end

end Go.Proofs.YtnkmcoljijmgpaaGreat
namespace Go.Proofs
open Go.Shelf
open Go.Sort Go.RowKit in
open Go.RowKit Go.Lib Go.Sort in
open Go.RowKit Go.Lib Go.Sort in
open Go.RowKit Go.Lib Go.Sort in
open Go.RowKit Go.Lib in
open Go.RowKit Go.Lib in
open Go.RowKit Go.Lib Go.Sort in
open Go.RowKit Go.Sort in
set_option linter.unusedSimpArgs false
set_option linter.unusedVariables false
namespace Go.Proofs.YtnkmcoljijmgpaaGreat
open Go.RowKit Go.Shelf Go.Sort

section
end
end Go.Proofs.YtnkmcoljijmgpaaGreat
set_option linter.unusedSimpArgs false
set_option linter.unusedVariables false
namespace Go.Proofs.YtnkmcoljijmgpaaGreat
open Go.RowKit Go.Shelf

end Go.Proofs.YtnkmcoljijmgpaaGreat
set_option linter.unusedSimpArgs false
set_option linter.unusedVariables false
namespace Go.Proofs.YtnkmcoljijmgpaaGreat
open Go.RowKit Go.Shelf
end Go.Proofs.YtnkmcoljijmgpaaGreat
set_option linter.unusedSimpArgs false
set_option linter.unusedVariables false
namespace Go.Proofs.YtnkmcoljijmgpaaGreat
open Go.RowKit Go.Shelf

end Go.Proofs.YtnkmcoljijmgpaaGreat
set_option linter.unusedSimpArgs false
set_option linter.unusedVariables false
namespace Go.Proofs.YtnkmcoljijmgpaaGreat
open Go.RowKit Go.Shelf
end Go.Proofs.YtnkmcoljijmgpaaGreat
set_option linter.unusedSimpArgs false
set_option linter.unusedVariables false
namespace Go.Proofs.YtnkmcoljijmgpaaGreat
open Go.RowKit Go.Shelf

end Go.Proofs.YtnkmcoljijmgpaaGreat
end Go.Proofs

set_option linter.unusedSimpArgs false
set_option linter.unusedVariables false
namespace Go.Proofs.YtnkmcoljijmgpaaGreat
open Go.RowKit

section
variable (north cols lofts wrong loft kind xl xh yl yh ax ay dl dh : Int) (ea : Option Addr) (el ec : Nat) (s : Value) (w : World)
end

end Go.Proofs.YtnkmcoljijmgpaaGreat
set_option linter.unusedSimpArgs false
set_option linter.unusedVariables false
namespace Go.Proofs.YtnkmcoljijmgpaaGreat
open Go.RowKit
attribute [local go_sem] Oper.semAt_some

end Go.Proofs.YtnkmcoljijmgpaaGreat
set_option linter.unusedSimpArgs false
set_option linter.unusedVariables false
namespace Go.Proofs.YtnkmcoljijmgpaaGreat
open Go.RowKit
attribute [local go_sem] Oper.semAt_some

def exEast : List Int := [800, 700, 600]
def exSvs : List Sv := [⟨0, 1, 0, 1, 0, 0, 0, 0, 0, 0⟩, ⟨0, 2, 0, 0, 0, 0, 3, 0, 1601, 2400⟩, ⟨1, 1, 2, 3, 1, 2, 0, 0, 0, 0⟩, ⟨1, 2, 0, 0, 0, 0, 0, 0, 1800, 2300⟩]
end Go.Proofs.YtnkmcoljijmgpaaGreat
set_option linter.unusedSimpArgs false
set_option linter.unusedVariables false
namespace Go.Proofs.YtnkmcoljijmgpaaGreat
open Go.RowKit
attribute [local go_sem] Oper.semAt_some
section
variable {gE gS : Nat} {w : World} (he : IntsAt w (some ⟨gE, 0, none⟩) exEast) (hs : SvsAt w (some ⟨gS, 0, none⟩) exSvs)
include he hs
end

end Go.Proofs.YtnkmcoljijmgpaaGreat
set_option linter.unusedSimpArgs false
set_option linter.unusedVariables false
namespace Go.Proofs.YtnkmcoljijmgpaaGreat
open Go.RowKit
attribute [local go_sem] Oper.semAt_some

section
variable (north cols lofts wrong px py qx qy : Int) (east : List Int) (svs : List Sv) (ea sa : Option Addr) (ec sc : Nat) (w : World)
variable (he : IntsAt w ea east) (hs : SvsAt w sa svs) (hl : east.length ≤ 9223372036854775807) (hl2 : svs.length ≤ 9223372036854775807)

end
end Go.Proofs.YtnkmcoljijmgpaaGreat
set_option linter.unusedSimpArgs false
set_option linter.unusedVariables false
namespace Go.Proofs.YtnkmcoljijmgpaaGreat
open Go.RowKit Go.ChangeShapes Go.WideShapes Go.ChangeAt
set_option maxRecDepth 100000

theorem k3 : Tryz.prog.cellsOf 3 = 1 := by kernel_rfl
section
variable {H : Type} {enc : TypeId × Value → H} {w : World} {base : Nat} {sp : Nat → Bool} {held : Bool} {fuel : Nat}
end

section
variable {H : Type} {enc : TypeId × Value → H} {w : World} {fuel : Nat}
end
end Go.Proofs.YtnkmcoljijmgpaaGreat
set_option linter.unusedSimpArgs false
set_option linter.unusedVariables false
namespace Go.Proofs.YtnkmcoljijmgpaaGreat
open Go.RowKit Go.ChangeShapes Go.WideShapes Go.ChangeAt
set_option maxRecDepth 100000

section
variable {H : Type} {enc : TypeId × Value → H} {w : World}
end
end Go.Proofs.YtnkmcoljijmgpaaGreat
set_option linter.unusedSimpArgs false
set_option linter.unusedVariables false
namespace Go.Proofs.YtnkmcoljijmgpaaGreat
open Go.RowKit Go.Shelf
attribute [local go_sem] Oper.semAt_some

theorem own_empty {W : World} {g : Nat} {t : TypeId} (hb : Blk W g t #[]) (size : Nat) : W.ownsRow g t size (.slice (some ⟨g, 0, none⟩) 0 0) 0 [] :=
  ⟨by simp, .inr ⟨g, 0, #[], rfl, Nat.le_refl _, hb, Nat.le_refl _, by decide, by simp, by simp⟩⟩
end Go.Proofs.YtnkmcoljijmgpaaGreat
set_option linter.unusedSimpArgs false
set_option linter.unusedVariables false
namespace Go.Proofs.YtnkmcoljijmgpaaGreat
open Go.RowKit
attribute [local go_sem] Oper.semAt_some

section
variable (north wrong : Int) (cols lofts : Nat) (east : List Int) (svs : List Sv) (ea sa : Option Addr) (ec sc : Nat) (w : World)
end

section
variable (north cols lofts wrong : Int) (east : List Int) (svs : List Sv) (ea sa : Option Addr) (ec sc : Nat) (w : World) (he : IntsAt w ea east) (hs : SvsAt w sa svs) (hl : east.length ≤ 9223372036854775807) (hl2 : svs.length ≤ 9223372036854775807)
include he hs hl hl2
end
end Go.Proofs.YtnkmcoljijmgpaaGreat
set_option linter.unusedSimpArgs false
set_option linter.unusedVariables false
namespace Go.Proofs.YtnkmcoljijmgpaaGreat
open Go.RowKit Go.Shelf
attribute [local go_sem] Oper.semAt_some wide_fn wide_dep wideR_fn wideR_dep

theorem ownsRow_kt {base : Nat} {e : TypeId} {size k : Nat} {v : Value} {xs : List Value} {T : TypeId → Prop} {B : Nat} {X Y : World} (h : X.ownsRow base e size v k xs) (hk : Kt T B X Y) (hT : ¬ T e) : Y.ownsRow base e size v k xs := by
  refine ⟨h.1, ?_⟩
  rcases h.2 with h' | ⟨g, cap, cur, h1, h2, h3, h4⟩
  · exact .inl h'
  · exact .inr ⟨g, cap, cur, h1, h2, hk.block g _ h3 (.inr (fun c t f e' => by cases e'; exact hT)), h4⟩
end Go.Proofs.YtnkmcoljijmgpaaGreat
set_option linter.unusedSimpArgs false
set_option linter.unusedVariables false
namespace Go.Proofs.YtnkmcoljijmgpaaGreat
open Go.RowKit
attribute [local go_sem] Oper.semAt_some

section
variable (north wrong : Int) (cols lofts l a b : Nat) (east : List Int) (svs : List Sv) (ea sa : Option Addr) (ec sc : Nat) (w : World)
end
end Go.Proofs.YtnkmcoljijmgpaaGreat
set_option linter.unusedSimpArgs false
set_option linter.unusedVariables false
namespace Go.Proofs.YtnkmcoljijmgpaaGreat
open Go.RowKit

end Go.Proofs.YtnkmcoljijmgpaaGreat
set_option linter.unusedSimpArgs false
set_option linter.unusedVariables false
namespace Go.Proofs.YtnkmcoljijmgpaaGreat
open Go.RowKit
attribute [local go_sem] Oper.semAt_some

end Go.Proofs.YtnkmcoljijmgpaaGreat

set_option linter.unusedSimpArgs false
set_option linter.unusedVariables false
namespace Go.Proofs.YtnkmcoljijmgpaaGreat
open Go.RowKit
attribute [local go_sem] Oper.semAt_some

theorem own_G {X Y : World} {base : Nat} {e : TypeId} {size k : Nat} {v : Value} {xs : List Value} (h : X.ownsRow base e size v k xs) (hk : G X Y) : Y.ownsRow base e size v k xs :=
  ownsRow_kt h (G.kt (T := fun _ => False) (B := 0) hk) (fun h => h)
theorem grow_own {wb WX w4 : World} {base : Nat} {e : TypeId} {size n : Nat} {v : Value} {xs : List Value} (hG : G wb WX) (h : WX.ownsRow base e size v n xs) (hb : wb.heap.size ≤ base) (hg : WX.grownBy w4 v.ownBlock) : G wb w4 :=
  (Fr.grown (G.fr (R := fun _ => False) hG) hg (fun g e => .inr (Nat.le_trans hb (own_base h e)))).toG (fun _ _ h => h)
theorem own_own {W : World} {b1 b2 s1 s2 n1 n2 : Nat} {e1 e2 : TypeId} {v1 v2 : Value} {xs1 xs2 : List Value} (h1 : W.ownsRow b1 e1 s1 v1 n1 xs1) (h2 : W.ownsRow b2 e2 s2 v2 n2 xs2) (hne : e1 ≠ e2) : v1.ownBlock = none ∨ v1.ownBlock ≠ v2.ownBlock := by
  rcases h1.2 with ⟨rfl, _⟩ | ⟨g, cap, cur, rfl, _, hb, _⟩
  · exact .inl rfl
  · exact .inr (own_ne h2 (show Blk W g e1 cur from hb) hne)
theorem own_some {W : World} {b s n : Nat} {e : TypeId} {v : Value} {xs : List Value} (h : W.ownsRow b e s v n xs) (hn : 0 < n) : ∃ g cap cur, v = .slice (some ⟨g, 0, none⟩) n cap ∧ Blk W g e cur ∧ g < W.heap.size ∧ cur.toList.take (n * s) = xs := by
  rcases h.2 with ⟨_, h0⟩ | ⟨g, cap, cur, rfl, _, hb, _, _, _, ht⟩
  · omega
  · exact ⟨g, cap, cur, rfl, hb, (Array.getElem?_eq_some_iff.1 hb).1, ht⟩
theorem take_cell {W : World} {g : Nat} {e : TypeId} {cur : Array Value} {n : Nat} {xs : List Value} (h : Blk W g e cur) (ht : cur.toList.take n = xs) {k : Nat} (hk : k < n) {v : Value} (hx : xs[k]? = some v) : W.cell? ⟨g, k, none⟩ = some v := by
  rw [h.cell k]
  rw [← ht, List.getElem?_take_of_lt hk] at hx
  simpa using hx
section
variable {north wrong : Int} {cols lofts : Nat} {east : List Int} {svs : List Sv} {l : List (Int × Int)}
end
section
variable {north wrong : Int} {cols lofts : Nat} {east : List Int} {svs : List Sv} {l : List (Int × Int)}
end
theorem own_one {W : World} {g : Nat} {e : TypeId} {x : Value} (b : Blk W g e #[x]) : W.ownsRow g e 1 (.slice (some ⟨g, 0, none⟩) 1 1) 1 [x] :=
  ⟨by simp, .inr ⟨g, 1, #[x], rfl, Nat.le_refl _, b, Nat.le_refl _, by decide, by simp, by simp⟩⟩
theorem own_slice {W : World} {base n size : Nat} {e : TypeId} {v : Value} {xs : List Value} (h : W.ownsRow base e size v n xs) : ∃ ra rc, v = .slice ra n rc := by
  rcases h.2 with ⟨rfl, h0⟩ | ⟨g, cap, cur, rfl, _⟩
  · subst h0; exact ⟨_, _, rfl⟩
  · exact ⟨_, _, rfl⟩
end Go.Proofs.YtnkmcoljijmgpaaGreat

set_option linter.unusedSimpArgs false
set_option linter.unusedVariables false
namespace Go.Proofs.YtnkmcoljijmgpaaGreat
open Go.RowKit
attribute [local go_sem] Oper.semAt_some

def spanB (lo hi a b : Int) : Bool := decide (a ≤ lo) && (decide (lo ≤ hi) && decide (hi ≤ b))
end Go.Proofs.YtnkmcoljijmgpaaGreat
set_option linter.unusedSimpArgs false
set_option linter.unusedVariables false
namespace Go.Proofs.YtnkmcoljijmgpaaGreat
open Go.RowKit
attribute [local go_sem] Oper.semAt_some

end Go.Proofs.YtnkmcoljijmgpaaGreat
set_option linter.unusedSimpArgs false
set_option linter.unusedVariables false
namespace Go.Proofs.YtnkmcoljijmgpaaGreat
open Go.RowKit
attribute [local go_sem] Oper.semAt_some

def dst (a b : Nat) : Nat := (a - b) + (b - a)
end Go.Proofs.YtnkmcoljijmgpaaGreat
set_option linter.unusedSimpArgs false
set_option linter.unusedVariables false
namespace Go.Proofs.YtnkmcoljijmgpaaGreat
open Go.RowKit
attribute [local go_sem] Oper.semAt_some

end Go.Proofs.YtnkmcoljijmgpaaGreat
set_option linter.unusedSimpArgs false
set_option linter.unusedVariables false
namespace Go.Proofs.YtnkmcoljijmgpaaGreat
open Go.RowKit
attribute [local go_sem] Oper.semAt_some

section
variable (north cols lofts wrong bx bY sl sh lw lg lh hours dark : Int) (ea : Option Addr) (el ec : Nat) (sv hv fv : Value)
end
end Go.Proofs.YtnkmcoljijmgpaaGreat
set_option linter.unusedSimpArgs false
set_option linter.unusedVariables false
namespace Go.Proofs.YtnkmcoljijmgpaaGreat
open Go.RowKit
attribute [local go_sem] Oper.semAt_some

/-- what a valid release is, but for its map and its fronts -/
structure RelOk (cols : Int) (el : Nat) (bx bY sl sh lw lg lh hours dark : Int) (n : Nat) (h : Nat → Nat → Int) : Prop where
  base : isPlaceB cols el bx bY = true
  many : n ≤ 6
  homes : ∀ i, i < n → isPlaceB cols el (h i 0) (h i 1) = true
  speed : spanB sl sh 1 3000000 = true
  wind : isInB lw 0 999 = true
  sight : isInB lg 0 999 = true
  heat : isInB lh 0 999 = true
  hrs : isInB hours 1 12 = true
  drk : isInB dark 0 9999 = true
structure FrontOk (cols : Int) (el : Nat) (hours : Int) (d : Nat → Int) : Prop where
  h1 : spanB (d 0) (d 1) 0 (hours - 1) = true
  h2 : spanB (d 2) (d 3) 0 (cols - 1) = true
  h3 : spanB (d 4) (d 5) 0 ((el : Int) - 1) = true
  h4 : spanB (d 6) (d 7) 0 999 = true
  h5 : spanB (d 8) (d 9) 0 999 = true
  h6 : spanB (d 10) (d 11) 0 999 = true
section
variable (north cols lofts wrong bx bY sl sh lw lg lh hours dark : Int) (east : List Int) (svs : List Sv) (n k : Nat) (h f : Nat → Nat → Int) (ea sa ha fa : Option Addr) (ec sc hc fc : Nat) (W : World)
end
end Go.Proofs.YtnkmcoljijmgpaaGreat

set_option linter.unusedSimpArgs false
set_option linter.unusedVariables false
namespace Go.Proofs.YtnkmcoljijmgpaaGreat
open Go.RowKit
attribute [local go_sem] Oper.semAt_some

/-- what is known of the weather: the winds, the sights, the heats from and to -/
structure Sk where
  wl : Int
  wh : Int
  sl : Int
  sh : Int
  hl : Int
  hh : Int
end Go.Proofs.YtnkmcoljijmgpaaGreat
set_option linter.unusedSimpArgs false
set_option linter.unusedVariables false
namespace Go.Proofs.YtnkmcoljijmgpaaGreat
open Go.RowKit
attribute [local go_sem] Oper.semAt_some

theorem far_trans {W W1 : World} {g : Nat} (h : ∀ b, b ≠ g → W1.heap[b]? = W.heap[b]?) (i : Nat) (u : Value) : ∀ b, b ≠ g → (W1.setCell ⟨g, i, none⟩ u).heap[b]? = W.heap[b]? := fun b hb => (Below.heap_setCell W1 ⟨g, i, none⟩ u b hb).trans (h b hb)
section
variable {P : Program} {w : World} {ops : Array Oper} {rest : List Oper} {o : Oper} {a : Act} {Q : Exit → Act → World → Prop}
end
end Go.Proofs.YtnkmcoljijmgpaaGreat
set_option linter.unusedSimpArgs false
set_option linter.unusedVariables false
namespace Go.Proofs.YtnkmcoljijmgpaaGreat
open Go.RowKit
attribute [local go_sem] Oper.semAt_some
/-- a number of the first n for which p says yes -/
def anyU (p : Nat → Bool) (n : Nat) : Bool := (List.range n).any p
theorem anyU_no {p : Nat → Bool} {n : Nat} (h : ∀ i, i < n → p i = false) : anyU p n = false := by
  unfold anyU
  rw [List.any_eq_false]
  intro x hx
  simp [h x (List.mem_range.1 hx)]
theorem anyU_yes {p : Nat → Bool} {n i : Nat} (hi : i < n) (h : p i = true) : anyU p n = true := by
  unfold anyU
  rw [List.any_eq_true]
  exact ⟨i, List.mem_range.2 hi, h⟩
end Go.Proofs.YtnkmcoljijmgpaaGreat
set_option linter.unusedSimpArgs false
set_option linter.unusedVariables false
namespace Go.Proofs.YtnkmcoljijmgpaaGreat
open Go.RowKit
attribute [local go_sem] Oper.semAt_some
end Go.Proofs.YtnkmcoljijmgpaaGreat

set_option linter.unusedSimpArgs false
set_option linter.unusedVariables false
namespace Go.Proofs.YtnkmcoljijmgpaaGreat
open Go.RowKit Go.Shelf
attribute [local go_sem] Oper.semAt_some
/-- a racer as it lies -/
structure Rc where
  bird : Int
  owner : Int
  rank : Int
  day : Int
  pa : Option Addr
  pc : Nat
  pools : List Int
instance : Inhabited Rc := ⟨⟨0, 0, 0, 0, none, 0, []⟩⟩
def Rc.v (x : Rc) : Array Value := #[.int .i64 x.bird, .int .i64 x.owner, .int .i64 x.rank, .int .i64 x.day, .slice x.pa x.pools.length x.pc]
/-- a pool as it lies -/
structure Po where
  stake : Int
  cut : Int
  kind : Int
  ta : Option Addr
  tc : Nat
  table : List Int
  quota : Int
  first : Bool
instance : Inhabited Po := ⟨⟨0, 0, 0, none, 0, [], 0, false⟩⟩
def Po.v (x : Po) : Array Value := #[.int .i64 x.stake, .int .i64 x.cut, .int .i64 x.kind, .slice x.ta x.table.length x.tc, .int .i64 x.quota, .bool x.first]
/-- a row of structs: element i's cells -/
def RowE {α : Type} [Inhabited α] (v : α → Array Value) (k : Nat) (W : World) (a : Option Addr) (l : List α) : Prop :=
  l.length = 0 ∨ ∃ g off, a = some ⟨g, off, none⟩ ∧ g < W.heap.size ∧ ∀ i, i < l.length → ∀ r, r < k → W.cell? ⟨g, off + i * k + r, none⟩ = (v (l.getD i default))[r]?
theorem RowE.below {α : Type} [Inhabited α] {v : α → Array Value} {k : Nat} {W W' : World} {a : Option Addr} {l : List α} (h : RowE v k W a l) (hG : G W W') : RowE v k W' a l := by
  rcases h with h | ⟨g, off, h1, h2, h3⟩
  · exact .inl h
  · exact .inr ⟨g, off, h1, Nat.lt_of_lt_of_le h2 hG.size, fun i hi r hr => ((bcellB hG).1 g _ h2).trans (h3 i hi r hr)⟩
structure RcsAt (W : World) (a : Option Addr) (l : List Rc) : Prop where
  row : RowE Rc.v 5 W a l
  pools : ∀ i, i < l.length → IntsAt W (l.getD i default).pa (l.getD i default).pools
structure PosAt (W : World) (a : Option Addr) (l : List Po) : Prop where
  row : RowE Po.v 6 W a l
  tables : ∀ i, i < l.length → IntsAt W (l.getD i default).ta (l.getD i default).table
theorem RcsAt.below {W W' : World} {a : Option Addr} {l : List Rc} (h : RcsAt W a l) (hG : G W W') : RcsAt W' a l := ⟨h.row.below hG, fun i hi => (h.pools i hi).below hG⟩
theorem PosAt.below {W W' : World} {a : Option Addr} {l : List Po} (h : PosAt W a l) (hG : G W W') : PosAt W' a l := ⟨h.row.below hG, fun i hi => (h.tables i hi).below hG⟩
/-- a race as it lies -/
structure Ra where
  ra : Option Addr
  rc : Nat
  racers : List Rc
  pa : Option Addr
  pc : Nat
  pools : List Po
  ta : Option Addr
  tc : Nat
  protests : List Int
def Ra.v (r : Ra) : Array Value := #[.slice r.ra r.racers.length r.rc, .slice r.pa r.pools.length r.pc, .slice r.ta r.protests.length r.tc]
structure Ra.At (r : Ra) (W : World) : Prop where
  rs : RcsAt W r.ra r.racers
  ps : PosAt W r.pa r.pools
  ts : IntsAt W r.ta r.protests
  nr : r.racers.length ≤ 1000
  cr : r.racers.length ≤ r.rc
  ct : r.protests.length ≤ r.tc
  np : r.pools.length ≤ 1000
  nt : r.protests.length ≤ 1000
  nq : ∀ i, i < r.racers.length → (r.racers.getD i default).pools.length ≤ 1000
  nb : ∀ i, i < r.pools.length → (r.pools.getD i default).table.length ≤ 1000
theorem Ra.At.keep {r : Ra} {W W' : World} (h : r.At W) (hG : G W W') : r.At W' := ⟨h.rs.below hG, h.ps.below hG, h.ts.below hG, h.nr, h.cr, h.ct, h.np, h.nt, h.nq, h.nb⟩
/-- all elements -/
def allU (p : Nat → Bool) (n : Nat) : Bool := !anyU (fun i => !p i) n
theorem allU_iff {p : Nat → Bool} {n : Nat} : allU p n = true ↔ ∀ i, i < n → p i = true := by
  unfold allU anyU
  rw [Bool.not_eq_true', List.any_eq_false]
  exact ⟨fun h i hi => by simpa using h i (List.mem_range.2 hi), fun h i hi => by simpa using h i (List.mem_range.1 hi)⟩
theorem isIn_any (n lo hi : Int) (w : World) : Calls Tryz.prog 94 #[.int .i64 n, .int .i64 lo, .int .i64 hi] w fun e w' => e = .returned (.bool (isInB n lo hi)) ∧ G w w' := by
  by_cases h1 : lo ≤ n
  · go_enter Tryz.func94, Tryz.ntmps94
    go_wp2
    go_ret
    exact ⟨by simp [isInB, h1], G.rf _⟩
  · go_enter Tryz.func94, Tryz.ntmps94
    go_wp2
    go_ret
    exact ⟨by rw [show isInB n lo hi = false by unfold isInB; simp; omega]; rfl, G.rf _⟩
/-- sum of a list of small numbers -/
def sumTo (l : List Int) (k : Nat) : Int := (l.take k).sum
theorem sumTo_succ (l : List Int) (k : Nat) (h : k < l.length) : sumTo l (k + 1) = sumTo l k + l.getD k 0 := by
  unfold sumTo
  rw [List.take_add_one, List.sum_append]
  simp [List.getElem?_eq_getElem h, List.getD_eq_getElem?_getD]
set_option maxHeartbeats 1000000 in
theorem sum_any (l : List Int) (a : Option Addr) (cap : Nat) (w : World) (h : IntsAt w a l) (hl : l.length ≤ 1000) (hb : ∀ k, k ≤ l.length → -1000000000 ≤ sumTo l k ∧ sumTo l k ≤ 1000000000) :
    Calls Tryz.prog 75 #[.slice a l.length cap] w fun e w' => e = .returned (.int .i64 l.sum) ∧ G w w' := by
  have HB := Lib.hid hb
  have HF : Hid (sumTo l l.length = l.sum) := by show _ = _; unfold sumTo; rw [List.take_length]
  clear hb
  go_enter Tryz.func75, Tryz.ntmps75
  go_wp2_with fail
  go_loopw [3, 8] (fun s i wr => ∃ k : Nat, k ≤ l.length ∧ s = .int .i64 (sumTo l k) ∧ i = .int .i64 k ∧ G w wr) (fun _ i _ => l.length - (intOf i).toNat)
  case atStart => exact ⟨0, Nat.zero_le _, rfl, rfl, G.rf _⟩
  case round =>
    obtain ⟨k, hk, rfl, rfl, hG⟩ := hrel
    by_cases hlt : k < l.length
    · have hki : (k : Int) < l.length := by omega
      rcases h with rfl | ⟨g, off, rfl, hg, hcell⟩
      · simp at hlt
      have c0 := ((bcellB hG).1 g _ hg).trans (hcell k hlt)
      have lg := Nat.lt_of_lt_of_le hg hG.size
      have HS := Lib.hid (sumTo_succ l k hlt)
      have hb2 := HB.out (k + 1) (by omega)
      rw [HS.out] at hb2
      have x1 : IntKind.i64.wrap (sumTo l k + l.getD k 0) = sumTo l k + l.getD k 0 := IntWalk.i64_in _ (by omega)
      obtain ⟨y, hy⟩ : ∃ y, y = l.getD k 0 := ⟨_, rfl⟩
      rw [← hy] at c0 HS x1
      clear hcell hb2 hy
      go_wp2_with fail
      go_roundw
      case rel => exact ⟨k + 1, by omega, by rw [HS.out], by go_num, hG⟩
      case measure => simp [intOf] <;> omega
    · obtain rfl : k = l.length := by omega
      have hki : ¬ ((l.length : Nat) : Int) < l.length := by omega
      go_wp2_with fail
      go_ret
      exact ⟨by rw [HF.out]; rfl, hG⟩
set_option maxRecDepth 100000 in
set_option maxHeartbeats 4000000 in
theorem IdxInt_any (C : FuncId) (eg : ∀ args w, (callFunc C args).run Tryz.prog w = .ok (.enter C args) w) (lb : Array Value) (W : World) (a : Option Addr) (cap : Nat) (l : List Int) (p : Nat → Bool) (hn : l.length ≤ 1000) (ha : IntsAt W a l)
    (hc : ∀ W', G W W' → ∀ i, i < l.length → Calls Tryz.prog C (#[.int .i64 (l.getD i 0)] ++ lb) W' fun e w' => e = .returned (.bool (p i)) ∧ G W' w') :
    Calls Tryz.prog 117 #[.slice a l.length cap, .func (.func C) #[] lb] W fun e w' => ∃ r : Int, e = .returned (.int .i64 r) ∧ decide (0 ≤ r) = anyU p l.length ∧ G W w' := by
  have HC := Lib.hid hc
  clear hc
  go_enter Tryz.func117, Tryz.ntmps117
  go_wp2
  go_loopw [8] (fun i wr => ∃ k : Nat, k ≤ l.length ∧ i = .int .i64 k ∧ Hid (∀ j, j < k → p j = false) ∧ G W wr) (fun i _ => l.length - (intOf i).toNat)
  case atStart => exact ⟨0, Nat.zero_le _, rfl, fun j hj => by omega, G.rf _⟩
  case round =>
    obtain ⟨k, hk, rfl, hno, hG⟩ := hrel
    by_cases hlt : k < l.length
    · have hki : (k : Int) < l.length := by omega
      rcases ha with rfl | ⟨g, off, rfl, hg, hcell⟩
      · simp at hlt
      have lg := Nat.lt_of_lt_of_le hg hG.size
      have q0 := ((bcellB hG).1 g _ hg).trans (hcell k hlt)
      have HC2 := Lib.hid (HC.out wr hG k hlt)
      obtain ⟨y, hy⟩ : ∃ y, y = l.getD k 0 := ⟨_, rfl⟩
      rw [← hy] at q0 HC2
      clear hy
      clear hcell HC
      cases hp : p k
      · rw [hp] at HC2
        have HP := Lib.hid hp
        clear hp
        go_wp2_with (go_at_fn C; refine (HC2.out).mono ?_; rintro e w1 ⟨rfl, hG1⟩)
        go_roundw
        case rel => exact ⟨k + 1, by omega, by go_num, fun j hj => by
          rcases Nat.lt_or_ge j k with h | h
          · exact hno.out j h
          · obtain rfl : j = k := by omega
            exact HP.out, hG.t hG1⟩
        case measure => simp [intOf] <;> omega
      · rw [hp] at HC2
        have HP := Lib.hid (anyU_yes hlt hp)
        clear hp
        go_wp2_with (go_at_fn C; refine (HC2.out).mono ?_; rintro e w1 ⟨rfl, hG1⟩)
        go_ret
        exact ⟨k, rfl, by rw [HP.out]; simp, hG.t hG1⟩
    · have hki : ¬ (k : Int) < l.length := by omega
      obtain rfl : k = l.length := by omega
      have HP := Lib.hid (anyU_no hno.out)
      go_wp2
      go_ret
      exact ⟨-1, rfl, by rw [HP.out]; rfl, hG⟩
theorem CtInt_any (C : FuncId) (eg : ∀ args w, (callFunc C args).run Tryz.prog w = .ok (.enter C args) w) (lb : Array Value) (W : World) (a : Option Addr) (cap : Nat) (l : List Int) (p : Nat → Bool) (hn : l.length ≤ 1000) (ha : IntsAt W a l)
    (hc : ∀ W', G W W' → ∀ i, i < l.length → Calls Tryz.prog C (#[.int .i64 (l.getD i 0)] ++ lb) W' fun e w' => e = .returned (.bool (p i)) ∧ G W' w') :
    Calls Tryz.prog 95 #[.slice a l.length cap, .func (.func C) #[] lb] W fun e w' => e = .returned (.bool (anyU p l.length)) ∧ G W w' := by
  have HI := Lib.hid (IdxInt_any C eg lb W a cap l p hn ha hc)
  clear ha hc
  go_enter Tryz.func95, Tryz.ntmps95
  go_wp2_with (go_at_call 117; refine (HI.out).mono ?_; rintro e w1 ⟨r, rfl, hr, hG1⟩; have HR := Lib.hid hr; clear hr)
  go_ret
  exact ⟨by rw [← HR.out]; first | rfl | simp, hG1⟩
theorem negInt (C : FuncId) (eg : ∀ args w, (callFunc C args).run Tryz.prog w = .ok (.enter C args) w) (lb : Array Value) (B : Nat) (x : Int) (b : Bool) (W : World) (hB : Blk W B 118 #[.func (.func C) #[] lb])
    (hc : ∀ W', G W W' → Calls Tryz.prog C (#[.int .i64 x] ++ lb) W' fun e w' => e = .returned (.bool b) ∧ G W' w') :
    Calls Tryz.prog 96 #[.int .i64 x, .pointer (some ⟨B, 0, none⟩)] W fun e w' => e = .returned (.bool (!b)) ∧ G W w' := by
  have HC := Lib.hid (hc W (G.rf _))
  have m0 := hB.cell 0
  have l0 := hB.lt
  clear hc
  go_enter Tryz.func96, Tryz.ntmps96
  go_wp2_with (go_at_fn C; refine (HC.out).mono ?_; rintro e w1 ⟨rfl, hG1⟩)
  go_ret
  exact ⟨rfl, hG1⟩
theorem eachInt_any (C : FuncId) (eg : ∀ args w, (callFunc C args).run Tryz.prog w = .ok (.enter C args) w) (lb : Array Value) (W : World) (a : Option Addr) (cap : Nat) (l : List Int) (p : Nat → Bool) (hn : l.length ≤ 1000) (ha : IntsAt W a l)
    (hc : ∀ W', G W W' → ∀ i, i < l.length → Calls Tryz.prog C (#[.int .i64 (l.getD i 0)] ++ lb) W' fun e w' => e = .returned (.bool (p i)) ∧ G W' w') :
    Calls Tryz.prog 71 #[.slice a l.length cap, .func (.func C) #[] lb] W fun e w' => e = .returned (.bool (allU p l.length)) ∧ G W w' := by
  have g0 : G W (W.alloc (.cells #[.func (.func C) #[] lb] 118)) := (G.rf _).a _
  have b0 : Blk (W.alloc (.cells #[.func (.func C) #[] lb] 118)) W.heap.size 118 #[.func (.func C) #[] lb] := Blk.new _ _ _
  have HCT := Lib.hid (CtInt_any 96 (enters_of Tryz.func96 (by kernel_rfl) rfl) #[.pointer (some ⟨W.heap.size, 0, none⟩)] (W.alloc (.cells #[.func (.func C) #[] lb] 118)) a cap l (fun i => !p i) hn (ha.below g0) (fun W' hW i hi => negInt C eg lb W.heap.size _ (p i) W' (b0.keep hW) (fun W2 h2 => hc W2 (g0.t (hW.t h2)) i hi)))
  clear ha hc
  go_enter Tryz.func71, Tryz.ntmps71
  go_wp2_with (go_at_call 95; refine (HCT.out).mono ?_; rintro e w1 ⟨rfl, hG1⟩)
  go_ret
  exact ⟨rfl, g0.t hG1⟩
set_option maxRecDepth 100000 in
set_option maxHeartbeats 4000000 in
theorem IdxPo_any (C : FuncId) (eg : ∀ args w, (callFunc C args).run Tryz.prog w = .ok (.enter C args) w) (lb : Array Value) (W : World) (a : Option Addr) (cap : Nat) (l : List Po) (p : Nat → Bool) (hn : l.length ≤ 1000) (ha : RowE Po.v 6 W a l)
    (hc : ∀ W', G W W' → ∀ i, i < l.length → Calls Tryz.prog C (#[.agg (l.getD i default).v] ++ lb) W' fun e w' => e = .returned (.bool (p i)) ∧ G W' w') :
    Calls Tryz.prog 147 #[.slice a l.length cap, .func (.func C) #[] lb] W fun e w' => ∃ r : Int, e = .returned (.int .i64 r) ∧ decide (0 ≤ r) = anyU p l.length ∧ G W w' := by
  have HC := Lib.hid hc
  clear hc
  go_enter Tryz.func147, Tryz.ntmps147
  go_wp2
  go_loopw [8] (fun i wr => ∃ k : Nat, k ≤ l.length ∧ i = .int .i64 k ∧ Hid (∀ j, j < k → p j = false) ∧ G W wr) (fun i _ => l.length - (intOf i).toNat)
  case atStart => exact ⟨0, Nat.zero_le _, rfl, fun j hj => by omega, G.rf _⟩
  case round =>
    obtain ⟨k, hk, rfl, hno, hG⟩ := hrel
    by_cases hlt : k < l.length
    · have hki : (k : Int) < l.length := by omega
      rcases ha with h | ⟨g, off, rfl, hg, hcell⟩
      · omega
      have lg := Nat.lt_of_lt_of_le hg hG.size
      have hcl := fun r hr => ((bcellB hG).1 g _ hg).trans (hcell k hlt r hr)
      have HC2 := Lib.hid (HC.out wr hG k hlt)
      obtain ⟨y, hy⟩ : ∃ y, y = l.getD k default := ⟨_, rfl⟩
      rw [← hy] at hcl HC2
      clear hy
      obtain ⟨ystake, ycut, ykind, yta, ytc, ytable, yquota, yfirst⟩ := y
      unfold Po.v at HC2 hcl
      have q0 : wr.cell? ⟨g, off + k * 6, none⟩ = some (.int .i64 ystake) := hcl 0 (by omega)
      have q1 : wr.cell? ⟨g, off + k * 6 + 1, none⟩ = some (.int .i64 ycut) := hcl 1 (by omega)
      have q2 : wr.cell? ⟨g, off + k * 6 + 2, none⟩ = some (.int .i64 ykind) := hcl 2 (by omega)
      have q3 : wr.cell? ⟨g, off + k * 6 + 3, none⟩ = some (.slice yta ytable.length ytc) := hcl 3 (by omega)
      have q4 : wr.cell? ⟨g, off + k * 6 + 4, none⟩ = some (.int .i64 yquota) := hcl 4 (by omega)
      have q5 : wr.cell? ⟨g, off + k * 6 + 5, none⟩ = some (.bool yfirst) := hcl 5 (by omega)
      clear hcl
      clear hcell HC
      cases hp : p k
      · rw [hp] at HC2
        have HP := Lib.hid hp
        clear hp
        go_wp2_with (go_at_fn C; refine (HC2.out).mono ?_; rintro e w1 ⟨rfl, hG1⟩)
        go_roundw
        case rel => exact ⟨k + 1, by omega, by go_num, fun j hj => by
          rcases Nat.lt_or_ge j k with h | h
          · exact hno.out j h
          · obtain rfl : j = k := by omega
            exact HP.out, hG.t hG1⟩
        case measure => simp [intOf] <;> omega
      · rw [hp] at HC2
        have HP := Lib.hid (anyU_yes hlt hp)
        clear hp
        go_wp2_with (go_at_fn C; refine (HC2.out).mono ?_; rintro e w1 ⟨rfl, hG1⟩)
        go_ret
        exact ⟨k, rfl, by rw [HP.out]; simp, hG.t hG1⟩
    · have hki : ¬ (k : Int) < l.length := by omega
      obtain rfl : k = l.length := by omega
      have HP := Lib.hid (anyU_no hno.out)
      go_wp2
      go_ret
      exact ⟨-1, rfl, by rw [HP.out]; rfl, hG⟩
theorem CtPo_any (C : FuncId) (eg : ∀ args w, (callFunc C args).run Tryz.prog w = .ok (.enter C args) w) (lb : Array Value) (W : World) (a : Option Addr) (cap : Nat) (l : List Po) (p : Nat → Bool) (hn : l.length ≤ 1000) (ha : RowE Po.v 6 W a l)
    (hc : ∀ W', G W W' → ∀ i, i < l.length → Calls Tryz.prog C (#[.agg (l.getD i default).v] ++ lb) W' fun e w' => e = .returned (.bool (p i)) ∧ G W' w') :
    Calls Tryz.prog 113 #[.slice a l.length cap, .func (.func C) #[] lb] W fun e w' => e = .returned (.bool (anyU p l.length)) ∧ G W w' := by
  have HI := Lib.hid (IdxPo_any C eg lb W a cap l p hn ha hc)
  clear ha hc
  go_enter Tryz.func113, Tryz.ntmps113
  go_wp2_with (go_at_call 147; refine (HI.out).mono ?_; rintro e w1 ⟨r, rfl, hr, hG1⟩; have HR := Lib.hid hr; clear hr)
  go_ret
  exact ⟨by rw [← HR.out]; first | rfl | simp, hG1⟩
theorem negPo (C : FuncId) (eg : ∀ args w, (callFunc C args).run Tryz.prog w = .ok (.enter C args) w) (lb : Array Value) (B : Nat) (x : Po) (b : Bool) (W : World) (hB : Blk W B 82 #[.func (.func C) #[] lb])
    (hc : ∀ W', G W W' → Calls Tryz.prog C (#[.agg x.v] ++ lb) W' fun e w' => e = .returned (.bool b) ∧ G W' w') :
    Calls Tryz.prog 114 #[.agg x.v, .pointer (some ⟨B, 0, none⟩)] W fun e w' => e = .returned (.bool (!b)) ∧ G W w' := by
  obtain ⟨ystake, ycut, ykind, yta, ytc, ytable, yquota, yfirst⟩ := x
  unfold Po.v at *
  have g0 : G W (W.alloc (.cells #[.int .i64 ystake, .int .i64 ycut, .int .i64 ykind, .slice yta ytable.length ytc, .int .i64 yquota, .bool yfirst] 42)) := (G.rf _).a _
  have HC := Lib.hid (hc _ g0)
  have b0 := hB.keep g0
  have m0 := b0.cell 0
  have l0 := b0.lt
  clear hc
  go_enter Tryz.func114, Tryz.ntmps114
  go_wp2_with (go_at_fn C; refine (HC.out).mono ?_; rintro e w1 ⟨rfl, hG1⟩)
  go_ret
  exact ⟨rfl, g0.t hG1⟩
theorem eachPo_any (C : FuncId) (eg : ∀ args w, (callFunc C args).run Tryz.prog w = .ok (.enter C args) w) (lb : Array Value) (W : World) (a : Option Addr) (cap : Nat) (l : List Po) (p : Nat → Bool) (hn : l.length ≤ 1000) (ha : RowE Po.v 6 W a l)
    (hc : ∀ W', G W W' → ∀ i, i < l.length → Calls Tryz.prog C (#[.agg (l.getD i default).v] ++ lb) W' fun e w' => e = .returned (.bool (p i)) ∧ G W' w') :
    Calls Tryz.prog 89 #[.slice a l.length cap, .func (.func C) #[] lb] W fun e w' => e = .returned (.bool (allU p l.length)) ∧ G W w' := by
  have g0 : G W (W.alloc (.cells #[.func (.func C) #[] lb] 82)) := (G.rf _).a _
  have b0 : Blk (W.alloc (.cells #[.func (.func C) #[] lb] 82)) W.heap.size 82 #[.func (.func C) #[] lb] := Blk.new _ _ _
  have HCT := Lib.hid (CtPo_any 114 (enters_of Tryz.func114 (by kernel_rfl) rfl) #[.pointer (some ⟨W.heap.size, 0, none⟩)] (W.alloc (.cells #[.func (.func C) #[] lb] 82)) a cap l (fun i => !p i) hn (ha.below g0) (fun W' hW i hi => negPo C eg lb W.heap.size _ (p i) W' (b0.keep hW) (fun W2 h2 => hc W2 (g0.t (hW.t h2)) i hi)))
  clear ha hc
  go_enter Tryz.func89, Tryz.ntmps89
  go_wp2_with (go_at_call 113; refine (HCT.out).mono ?_; rintro e w1 ⟨rfl, hG1⟩)
  go_ret
  exact ⟨rfl, g0.t hG1⟩
set_option maxRecDepth 100000 in
set_option maxHeartbeats 4000000 in
theorem IdxRc_any (C : FuncId) (eg : ∀ args w, (callFunc C args).run Tryz.prog w = .ok (.enter C args) w) (lb : Array Value) (W : World) (a : Option Addr) (cap : Nat) (l : List Rc) (p : Nat → Bool) (hn : l.length ≤ 1000) (ha : RowE Rc.v 5 W a l)
    (hc : ∀ W', G W W' → ∀ i, i < l.length → Calls Tryz.prog C (#[.agg (l.getD i default).v] ++ lb) W' fun e w' => e = .returned (.bool (p i)) ∧ G W' w') :
    Calls Tryz.prog 118 #[.slice a l.length cap, .func (.func C) #[] lb] W fun e w' => ∃ r : Int, e = .returned (.int .i64 r) ∧ decide (0 ≤ r) = anyU p l.length ∧ G W w' := by
  have HC := Lib.hid hc
  clear hc
  go_enter Tryz.func118, Tryz.ntmps118
  go_wp2
  go_loopw [8] (fun i wr => ∃ k : Nat, k ≤ l.length ∧ i = .int .i64 k ∧ Hid (∀ j, j < k → p j = false) ∧ G W wr) (fun i _ => l.length - (intOf i).toNat)
  case atStart => exact ⟨0, Nat.zero_le _, rfl, fun j hj => by omega, G.rf _⟩
  case round =>
    obtain ⟨k, hk, rfl, hno, hG⟩ := hrel
    by_cases hlt : k < l.length
    · have hki : (k : Int) < l.length := by omega
      rcases ha with h | ⟨g, off, rfl, hg, hcell⟩
      · omega
      have lg := Nat.lt_of_lt_of_le hg hG.size
      have hcl := fun r hr => ((bcellB hG).1 g _ hg).trans (hcell k hlt r hr)
      have HC2 := Lib.hid (HC.out wr hG k hlt)
      obtain ⟨y, hy⟩ : ∃ y, y = l.getD k default := ⟨_, rfl⟩
      rw [← hy] at hcl HC2
      clear hy
      obtain ⟨ybird, yowner, yrank, yday, ypa, ypc, ypools⟩ := y
      unfold Rc.v at HC2 hcl
      have q0 : wr.cell? ⟨g, off + k * 5, none⟩ = some (.int .i64 ybird) := hcl 0 (by omega)
      have q1 : wr.cell? ⟨g, off + k * 5 + 1, none⟩ = some (.int .i64 yowner) := hcl 1 (by omega)
      have q2 : wr.cell? ⟨g, off + k * 5 + 2, none⟩ = some (.int .i64 yrank) := hcl 2 (by omega)
      have q3 : wr.cell? ⟨g, off + k * 5 + 3, none⟩ = some (.int .i64 yday) := hcl 3 (by omega)
      have q4 : wr.cell? ⟨g, off + k * 5 + 4, none⟩ = some (.slice ypa ypools.length ypc) := hcl 4 (by omega)
      clear hcl
      clear hcell HC
      cases hp : p k
      · rw [hp] at HC2
        have HP := Lib.hid hp
        clear hp
        go_wp2_with (go_at_fn C; refine (HC2.out).mono ?_; rintro e w1 ⟨rfl, hG1⟩)
        go_roundw
        case rel => exact ⟨k + 1, by omega, by go_num, fun j hj => by
          rcases Nat.lt_or_ge j k with h | h
          · exact hno.out j h
          · obtain rfl : j = k := by omega
            exact HP.out, hG.t hG1⟩
        case measure => simp [intOf] <;> omega
      · rw [hp] at HC2
        have HP := Lib.hid (anyU_yes hlt hp)
        clear hp
        go_wp2_with (go_at_fn C; refine (HC2.out).mono ?_; rintro e w1 ⟨rfl, hG1⟩)
        go_ret
        exact ⟨k, rfl, by rw [HP.out]; simp, hG.t hG1⟩
    · have hki : ¬ (k : Int) < l.length := by omega
      obtain rfl : k = l.length := by omega
      have HP := Lib.hid (anyU_no hno.out)
      go_wp2
      go_ret
      exact ⟨-1, rfl, by rw [HP.out]; rfl, hG⟩
theorem CtRc_any (C : FuncId) (eg : ∀ args w, (callFunc C args).run Tryz.prog w = .ok (.enter C args) w) (lb : Array Value) (W : World) (a : Option Addr) (cap : Nat) (l : List Rc) (p : Nat → Bool) (hn : l.length ≤ 1000) (ha : RowE Rc.v 5 W a l)
    (hc : ∀ W', G W W' → ∀ i, i < l.length → Calls Tryz.prog C (#[.agg (l.getD i default).v] ++ lb) W' fun e w' => e = .returned (.bool (p i)) ∧ G W' w') :
    Calls Tryz.prog 97 #[.slice a l.length cap, .func (.func C) #[] lb] W fun e w' => e = .returned (.bool (anyU p l.length)) ∧ G W w' := by
  have HI := Lib.hid (IdxRc_any C eg lb W a cap l p hn ha hc)
  clear ha hc
  go_enter Tryz.func97, Tryz.ntmps97
  go_wp2_with (go_at_call 118; refine (HI.out).mono ?_; rintro e w1 ⟨r, rfl, hr, hG1⟩; have HR := Lib.hid hr; clear hr)
  go_ret
  exact ⟨by rw [← HR.out]; first | rfl | simp, hG1⟩
end Go.Proofs.YtnkmcoljijmgpaaGreat

set_option linter.unusedSimpArgs false
set_option linter.unusedVariables false
namespace Go.Proofs.YtnkmcoljijmgpaaGreat
open Go.RowKit Go.Shelf
attribute [local go_sem] Oper.semAt_some
/-- ascending, each above the one before -/
def ascB (l : List Int) : Bool := allU (fun i => decide (i = 0) || decide (l.getD (i - 1) 0 < l.getD i 0)) l.length
set_option maxRecDepth 100000 in
set_option maxHeartbeats 4000000 in
theorem asc_any (l : List Int) (a : Option Addr) (cap : Nat) (w : World) (h : IntsAt w a l) (hl : l.length ≤ 1000) : Calls Tryz.prog 92 #[.slice a l.length cap] w fun e w' => e = .returned (.bool (ascB l)) ∧ G w w' := by
  go_enter Tryz.func92, Tryz.ntmps92
  go_wp2_with fail
  go_loopw [6] (fun i wr => ∃ k : Nat, k ≤ l.length ∧ i = .int .i64 k ∧ Hid (∀ j, j < k → (decide (j = 0) || decide (l.getD (j - 1) 0 < l.getD j 0)) = true) ∧ G w wr) (fun i _ => l.length - (intOf i).toNat)
  case atStart => exact ⟨0, Nat.zero_le _, rfl, fun j hj => by omega, G.rf _⟩
  case round =>
    obtain ⟨k, hk, rfl, hno, hG⟩ := hrel
    obtain ⟨wo, rfl⟩ : ∃ wo, wo = wr := ⟨_, rfl⟩
    by_cases hlt : k < l.length
    · have hki : (k : Int) < l.length := by omega
      rcases h with rfl | ⟨g, off, rfl, hg, hcell⟩
      · simp at hlt
      have lg := Nat.lt_of_lt_of_le hg hG.size
      by_cases h0 : k = 0
      · subst h0
        have hki0 : ¬ (0 : Int) < ((0 : Nat) : Int) := by omega
        clear hcell
        go_upto_region 4 with fail
        refine wp_region_Y (S := fun W' => True) 13 14 rfl (by kernel_rfl) trivial (fun hS => ?_)
        have ga := (G.rf wo).d
        refine wpAnyY_take (i := 0) (v := ?_) rfl (by kernel_rfl) (by kernel_rfl) (by kernel_rfl) (by kernel_rfl) (fun _ _ _ h => h) (Or.inl ⟨by kernel_rfl, ?_⟩) hS ?_
        rotate_left
        · intro w' hSw; go_simp; with_reducible rfl
        try simp only [Act.put, List.getElem_toArray, List.getElem_cons_zero, List.getElem_cons_succ, List.setIfInBounds_toArray, List.set_cons_zero, List.set_cons_succ]
        refine wpAnyY_take (i := 1) (v := ?_) rfl (by kernel_rfl) (by kernel_rfl) (by kernel_rfl) (by kernel_rfl) (fun _ _ _ h => h) (Or.inl ⟨by kernel_rfl, ?_⟩) hS ?_
        rotate_left
        · intro w' hSw; go_simp; with_reducible rfl
        try simp only [Act.put, List.getElem_toArray, List.getElem_cons_zero, List.getElem_cons_succ, List.setIfInBounds_toArray, List.set_cons_zero, List.set_cons_succ]
        refine wpAnyY_take (i := 2) (v := ?_) rfl (by kernel_rfl) (by kernel_rfl) (by kernel_rfl) (by kernel_rfl) (fun _ _ _ h => h) (Or.inl ⟨by kernel_rfl, ?_⟩) hS ?_
        rotate_left
        · intro w' hSw; go_simp; with_reducible rfl
        try simp only [Act.put, List.getElem_toArray, List.getElem_cons_zero, List.getElem_cons_succ, List.setIfInBounds_toArray, List.set_cons_zero, List.set_cons_succ]
        refine wpAnyY_take (i := 3) (v := undef) rfl (by kernel_rfl) (by kernel_rfl) (by kernel_rfl) (by kernel_rfl) (fun _ _ _ h => h) (Or.inr ⟨by kernel_rfl, rfl⟩) hS ?_
        try simp only [Act.put, List.getElem_toArray, List.getElem_cons_zero, List.getElem_cons_succ, List.setIfInBounds_toArray, List.set_cons_zero, List.set_cons_succ]
        refine wpAnyY_take (i := 4) (v := undef) rfl (by kernel_rfl) (by kernel_rfl) (by kernel_rfl) (by kernel_rfl) (fun _ _ _ h => h) (Or.inr ⟨by kernel_rfl, rfl⟩) hS ?_
        try simp only [Act.put, List.getElem_toArray, List.getElem_cons_zero, List.getElem_cons_succ, List.setIfInBounds_toArray, List.set_cons_zero, List.set_cons_succ]
        refine wpAnyY_take (i := 5) (v := undef) rfl (by kernel_rfl) (by kernel_rfl) (by kernel_rfl) (by kernel_rfl) (fun _ _ _ h => h) (Or.inr ⟨by kernel_rfl, rfl⟩) hS ?_
        try simp only [Act.put, List.getElem_toArray, List.getElem_cons_zero, List.getElem_cons_succ, List.setIfInBounds_toArray, List.set_cons_zero, List.set_cons_succ]
        refine wpAnyY_take (i := 6) (v := undef) rfl (by kernel_rfl) (by kernel_rfl) (by kernel_rfl) (by kernel_rfl) (fun _ _ _ h => h) (Or.inr ⟨by kernel_rfl, rfl⟩) hS ?_
        try simp only [Act.put, List.getElem_toArray, List.getElem_cons_zero, List.getElem_cons_succ, List.setIfInBounds_toArray, List.set_cons_zero, List.set_cons_succ]
        refine wpAnyY_take (i := 7) (v := undef) rfl (by kernel_rfl) (by kernel_rfl) (by kernel_rfl) (by kernel_rfl) (fun _ _ _ h => h) (Or.inr ⟨by kernel_rfl, rfl⟩) hS ?_
        try simp only [Act.put, List.getElem_toArray, List.getElem_cons_zero, List.getElem_cons_succ, List.setIfInBounds_toArray, List.set_cons_zero, List.set_cons_succ]
        refine wpAnyY_take (i := 8) (v := undef) rfl (by kernel_rfl) (by kernel_rfl) (by kernel_rfl) (by kernel_rfl) (fun _ _ _ h => h) (Or.inr ⟨by kernel_rfl, rfl⟩) hS ?_
        try simp only [Act.put, List.getElem_toArray, List.getElem_cons_zero, List.getElem_cons_succ, List.setIfInBounds_toArray, List.set_cons_zero, List.set_cons_succ]
        refine wpAnyY_take (i := 9) (v := undef) rfl (by kernel_rfl) (by kernel_rfl) (by kernel_rfl) (by kernel_rfl) (fun _ _ _ h => h) (Or.inr ⟨by kernel_rfl, rfl⟩) hS ?_
        try simp only [Act.put, List.getElem_toArray, List.getElem_cons_zero, List.getElem_cons_succ, List.setIfInBounds_toArray, List.set_cons_zero, List.set_cons_succ]
        refine wpAnyY_take (i := 10) (v := undef) rfl (by kernel_rfl) (by kernel_rfl) (by kernel_rfl) (by kernel_rfl) (fun _ _ _ h => h) (Or.inr ⟨by kernel_rfl, rfl⟩) hS ?_
        try simp only [Act.put, List.getElem_toArray, List.getElem_cons_zero, List.getElem_cons_succ, List.setIfInBounds_toArray, List.set_cons_zero, List.set_cons_succ]
        refine wpAnyY_take (i := 11) (v := undef) rfl (by kernel_rfl) (by kernel_rfl) (by kernel_rfl) (by kernel_rfl) (fun _ _ _ h => h) (Or.inr ⟨by kernel_rfl, rfl⟩) hS ?_
        try simp only [Act.put, List.getElem_toArray, List.getElem_cons_zero, List.getElem_cons_succ, List.setIfInBounds_toArray, List.set_cons_zero, List.set_cons_succ]
        refine wpAnyY_take (i := 12) (v := undef) rfl (by kernel_rfl) (by kernel_rfl) (by kernel_rfl) (by kernel_rfl) (fun _ _ _ h => h) (Or.inr ⟨by kernel_rfl, rfl⟩) hS ?_
        try simp only [Act.put, List.getElem_toArray, List.getElem_cons_zero, List.getElem_cons_succ, List.setIfInBounds_toArray, List.set_cons_zero, List.set_cons_succ]
        refine wpAnyY_oneW (i := 13) (by kernel_rfl) rfl (by kernel_rfl) (by kernel_rfl) (fun K13 hK13 => ?_)
        go_simp
        refine hK13.out _ _ ?_
        clear hK13
        try simp only [Act.put, List.getElem_toArray, List.getElem_cons_zero, List.getElem_cons_succ, List.setIfInBounds_toArray, List.set_cons_zero, List.set_cons_succ]
        refine wpAnyY_done (by kernel_rfl) ?_ _
        go_wp2_with fail
        go_roundw
        case rel => exact ⟨1, by omega, by go_num, fun j hj => by
          obtain rfl : j = 0 := by omega
          rfl, hG.t ga⟩
        case measure => simp [intOf] <;> omega
      · have hki0 : (0 : Int) < (k : Int) := by omega
        have hn0 : 0 < k := by omega
        have hd1 : decide ((0 : Int) < (k : Int)) = true := decide_eq_true hki0
        have hd2 : decide (0 < k) = true := decide_eq_true hn0
        obtain ⟨q, hq⟩ : ∃ q, q = k - 1 := ⟨_, rfl⟩
        have x1 : IntKind.i64.wrap ((k : Int) - 1) = (q : Nat) := by rw [IntWalk.i64_in _ (by omega)]; omega
        have hqi : (q : Int) < l.length := by omega
        have hck := hcell k hlt
        have hcq := hcell q (by omega)
        obtain ⟨x, hx⟩ : ∃ x, x = l.getD k 0 := ⟨_, rfl⟩
        obtain ⟨y, hy⟩ : ∃ y, y = l.getD q 0 := ⟨_, rfl⟩
        rw [← hx] at hck
        rw [← hy] at hcq
        have HXY : Hid ((decide (k = 0) || decide (l.getD (k - 1) 0 < l.getD k 0)) = decide (y < x)) := by
          show _ = _
          rw [← hq, hx, hy, decide_eq_false h0]
          rfl
        have hSk : ∀ W', G wo W' → (W'.cell? ⟨g, off + k, none⟩ = some (.int .i64 x) ∧ W'.cell? ⟨g, off + q, none⟩ = some (.int .i64 y)) := fun W' hW => ⟨((bcellB (hG.t hW)).1 g _ hg).trans hck, ((bcellB (hG.t hW)).1 g _ hg).trans hcq⟩
        clear hcell hck hcq hx hy hq h0
        go_upto_region 4 with fail
        refine wp_region_Y (S := fun W' => W'.cell? ⟨g, off + k, none⟩ = some (.int .i64 x) ∧ W'.cell? ⟨g, off + q, none⟩ = some (.int .i64 y)) 13 14 rfl (by kernel_rfl) (hSk _ (G.rf _).d) (fun hS => ?_)
        have ga := (G.rf wo).d
        refine wpAnyY_take (i := 0) (v := ?_) rfl (by kernel_rfl) (by kernel_rfl) (by kernel_rfl) (by kernel_rfl) (fun _ _ _ h => h) (Or.inl ⟨by kernel_rfl, ?_⟩) hS ?_
        rotate_left
        · intro w' hSw; go_simp; with_reducible rfl
        try simp only [Act.put, List.getElem_toArray, List.getElem_cons_zero, List.getElem_cons_succ, List.setIfInBounds_toArray, List.set_cons_zero, List.set_cons_succ]
        refine wpAnyY_take (i := 1) (v := ?_) rfl (by kernel_rfl) (by kernel_rfl) (by kernel_rfl) (by kernel_rfl) (fun _ _ _ h => h) (Or.inl ⟨by kernel_rfl, ?_⟩) hS ?_
        rotate_left
        · intro w' hSw; go_simp; with_reducible rfl
        try simp only [Act.put, List.getElem_toArray, List.getElem_cons_zero, List.getElem_cons_succ, List.setIfInBounds_toArray, List.set_cons_zero, List.set_cons_succ]
        refine wpAnyY_take (i := 2) (v := ?_) rfl (by kernel_rfl) (by kernel_rfl) (by kernel_rfl) (by kernel_rfl) (fun _ _ _ h => h) (Or.inl ⟨by kernel_rfl, ?_⟩) hS ?_
        rotate_left
        · intro w' hSw; go_simp; with_reducible rfl
        try simp only [Act.put, List.getElem_toArray, List.getElem_cons_zero, List.getElem_cons_succ, List.setIfInBounds_toArray, List.set_cons_zero, List.set_cons_succ]
        refine wpAnyY_take (i := 3) (v := ?_) rfl (by kernel_rfl) (by kernel_rfl) (by kernel_rfl) (by kernel_rfl) (fun _ _ _ h => h) (Or.inl ⟨by kernel_rfl, ?_⟩) hS ?_
        rotate_left
        · intro w' hSw; go_simp; with_reducible rfl
        try simp only [Act.put, List.getElem_toArray, List.getElem_cons_zero, List.getElem_cons_succ, List.setIfInBounds_toArray, List.set_cons_zero, List.set_cons_succ]
        refine wpAnyY_take (i := 4) (v := ?_) rfl (by kernel_rfl) (by kernel_rfl) (by kernel_rfl) (by kernel_rfl) (fun _ _ _ h => h) (Or.inl ⟨by kernel_rfl, ?_⟩) hS ?_
        rotate_left
        · intro w' hSw; go_simp; with_reducible rfl
        try simp only [Act.put, List.getElem_toArray, List.getElem_cons_zero, List.getElem_cons_succ, List.setIfInBounds_toArray, List.set_cons_zero, List.set_cons_succ]
        refine wpAnyY_take (i := 5) (v := ?_) rfl (by kernel_rfl) (by kernel_rfl) (by kernel_rfl) (by kernel_rfl) (fun _ _ _ h => h) (Or.inl ⟨by kernel_rfl, ?_⟩) hS ?_
        rotate_left
        · intro w' hSw; go_simp; with_reducible rfl
        try simp only [Act.put, List.getElem_toArray, List.getElem_cons_zero, List.getElem_cons_succ, List.setIfInBounds_toArray, List.set_cons_zero, List.set_cons_succ]
        refine wpAnyY_take (i := 6) (v := ?_) rfl (by kernel_rfl) (by kernel_rfl) (by kernel_rfl) (by kernel_rfl) (fun _ _ _ h => h) (Or.inl ⟨by kernel_rfl, ?_⟩) hS ?_
        rotate_left
        · intro w' hSw; obtain ⟨y0, y1⟩ := hSw; go_simp; with_reducible rfl
        try simp only [Act.put, List.getElem_toArray, List.getElem_cons_zero, List.getElem_cons_succ, List.setIfInBounds_toArray, List.set_cons_zero, List.set_cons_succ]
        refine wpAnyY_take (i := 7) (v := ?_) rfl (by kernel_rfl) (by kernel_rfl) (by kernel_rfl) (by kernel_rfl) (fun _ _ _ h => h) (Or.inl ⟨by kernel_rfl, ?_⟩) hS ?_
        rotate_left
        · intro w' hSw; go_simp; with_reducible rfl
        try simp only [Act.put, List.getElem_toArray, List.getElem_cons_zero, List.getElem_cons_succ, List.setIfInBounds_toArray, List.set_cons_zero, List.set_cons_succ]
        refine wpAnyY_take (i := 8) (v := ?_) rfl (by kernel_rfl) (by kernel_rfl) (by kernel_rfl) (by kernel_rfl) (fun _ _ _ h => h) (Or.inl ⟨by kernel_rfl, ?_⟩) hS ?_
        rotate_left
        · intro w' hSw; go_simp; with_reducible rfl
        try simp only [Act.put, List.getElem_toArray, List.getElem_cons_zero, List.getElem_cons_succ, List.setIfInBounds_toArray, List.set_cons_zero, List.set_cons_succ]
        refine wpAnyY_take (i := 9) (v := ?_) rfl (by kernel_rfl) (by kernel_rfl) (by kernel_rfl) (by kernel_rfl) (fun _ _ _ h => h) (Or.inl ⟨by kernel_rfl, ?_⟩) hS ?_
        rotate_left
        · intro w' hSw; go_simp; with_reducible rfl
        try simp only [Act.put, List.getElem_toArray, List.getElem_cons_zero, List.getElem_cons_succ, List.setIfInBounds_toArray, List.set_cons_zero, List.set_cons_succ]
        refine wpAnyY_take (i := 10) (v := ?_) rfl (by kernel_rfl) (by kernel_rfl) (by kernel_rfl) (by kernel_rfl) (fun _ _ _ h => h) (Or.inl ⟨by kernel_rfl, ?_⟩) hS ?_
        rotate_left
        · intro w' hSw; go_simp; with_reducible rfl
        try simp only [Act.put, List.getElem_toArray, List.getElem_cons_zero, List.getElem_cons_succ, List.setIfInBounds_toArray, List.set_cons_zero, List.set_cons_succ]
        refine wpAnyY_take (i := 11) (v := ?_) rfl (by kernel_rfl) (by kernel_rfl) (by kernel_rfl) (by kernel_rfl) (fun _ _ _ h => h) (Or.inl ⟨by kernel_rfl, ?_⟩) hS ?_
        rotate_left
        · intro w' hSw; obtain ⟨y0, y1⟩ := hSw; go_simp; with_reducible rfl
        try simp only [Act.put, List.getElem_toArray, List.getElem_cons_zero, List.getElem_cons_succ, List.setIfInBounds_toArray, List.set_cons_zero, List.set_cons_succ]
        refine wpAnyY_take (i := 12) (v := ?_) rfl (by kernel_rfl) (by kernel_rfl) (by kernel_rfl) (by kernel_rfl) (fun _ _ _ h => h) (Or.inl ⟨by kernel_rfl, ?_⟩) hS ?_
        rotate_left
        · intro w' hSw; go_simp; with_reducible rfl
        try simp only [Act.put, List.getElem_toArray, List.getElem_cons_zero, List.getElem_cons_succ, List.setIfInBounds_toArray, List.set_cons_zero, List.set_cons_succ]
        refine wpAnyY_oneW (i := 13) (by kernel_rfl) rfl (by kernel_rfl) (by kernel_rfl) (fun K13 hK13 => ?_)
        go_simp
        refine hK13.out _ _ ?_
        clear hK13
        try simp only [Act.put, List.getElem_toArray, List.getElem_cons_zero, List.getElem_cons_succ, List.setIfInBounds_toArray, List.set_cons_zero, List.set_cons_succ]
        refine wpAnyY_done (by kernel_rfl) ?_ _
        clear hS hSk
        by_cases hyx : y < x
        · have hxy : ¬ x ≤ y := by omega
          go_wp2_with fail
          go_roundw
          case rel => exact ⟨k + 1, by omega, by go_num, fun j hj => by
            rcases Nat.lt_or_ge j k with h | h
            · exact hno.out j h
            · obtain rfl : j = k := by omega
              rw [HXY.out]; exact decide_eq_true hyx, hG.t ga⟩
          case measure => simp [intOf] <;> omega
        · have hxy : x ≤ y := by omega
          have HF : Hid (ascB l = false) := by
            show _ = _
            unfold ascB
            cases hv : allU (fun i => decide (i = 0) || decide (l.getD (i - 1) 0 < l.getD i 0)) l.length
            · rfl
            · have := allU_iff.1 hv k hlt
              rw [HXY.out] at this
              exact absurd (of_decide_eq_true this) hyx
          go_wp2_with fail
          go_ret
          exact ⟨by rw [HF.out]; rfl, hG.t ga⟩
    · obtain rfl : k = l.length := by omega
      have hki : ¬ ((l.length : Nat) : Int) < l.length := by omega
      have HT : Hid (ascB l = true) := allU_iff.2 hno.out
      go_wp2_with fail
      go_ret
      exact ⟨by rw [HT.out]; rfl, hG⟩
/-- a bird is among the first racers -/
def hasB (l : List Rc) (b : Int) : Bool := anyU (fun i => (l.getD i default).bird == b) l.length
theorem has98 (x : Rc) (b : Int) (B : Nat) (W : World) (hB : Blk W B 3 #[.int .i64 b]) : Calls Tryz.prog 98 #[.agg x.v, .pointer (some ⟨B, 0, none⟩)] W fun e w' => e = .returned (.bool (x.bird == b)) ∧ G W w' := by
  obtain ⟨ybird, yowner, yrank, yday, ypa, ypc, ypools⟩ := x
  unfold Rc.v
  have g0 : G W (W.alloc (.cells #[.int .i64 ybird, .int .i64 yowner, .int .i64 yrank, .int .i64 yday, .slice ypa ypools.length ypc] 60)) := (G.rf _).a _
  have b0 := hB.keep g0
  have m0 := b0.cell 0
  have l0 := b0.lt
  go_enter Tryz.func98, Tryz.ntmps98
  go_wp2
  go_ret
  exact ⟨rfl, g0⟩
theorem has_any (l : List Rc) (a : Option Addr) (cap : Nat) (b : Int) (w : World) (h : RowE Rc.v 5 w a l) (hl : l.length ≤ 1000) : Calls Tryz.prog 73 #[.slice a l.length cap, .int .i64 b] w fun e w' => e = .returned (.bool (hasB l b)) ∧ G w w' := by
  have g0 : G w (w.alloc (.cells #[.int .i64 b] 3)) := (G.rf _).a _
  have b0 : Blk (w.alloc (.cells #[.int .i64 b] 3)) w.heap.size 3 #[.int .i64 b] := Blk.new _ _ _
  have HCT := Lib.hid (CtRc_any 98 (enters_of Tryz.func98 (by kernel_rfl) rfl) #[.pointer (some ⟨w.heap.size, 0, none⟩)] (w.alloc (.cells #[.int .i64 b] 3)) a cap l (fun i => (l.getD i default).bird == b) hl (h.below g0) (fun W' hW i hi => has98 _ b w.heap.size W' (b0.keep hW)))
  clear h
  go_enter Tryz.func73, Tryz.ntmps73
  go_wp2_with (go_at_call 97; refine (HCT.out).mono ?_; rintro e w1 ⟨rfl, hG1⟩)
  go_ret
  exact ⟨rfl, g0.t hG1⟩
def rankB (x : Rc) : Bool := if x.day = 0 then decide (x.rank = 0) else isInB x.day 1 2 && isInB x.rank 1 12
theorem rank_any (x : Rc) (w : World) : Calls Tryz.prog 149 #[.agg x.v] w fun e w' => e = .returned (.bool (rankB x)) ∧ G w w' := by
  obtain ⟨ybird, yowner, yrank, yday, ypa, ypc, ypools⟩ := x
  unfold rankB Rc.v
  have g0 : G w (w.alloc (.cells #[.int .i64 ybird, .int .i64 yowner, .int .i64 yrank, .int .i64 yday, .slice ypa ypools.length ypc] 60)) := (G.rf _).a _
  have b0 : Blk (w.alloc (.cells #[.int .i64 ybird, .int .i64 yowner, .int .i64 yrank, .int .i64 yday, .slice ypa ypools.length ypc] 60)) w.heap.size 60 #[.int .i64 ybird, .int .i64 yowner, .int .i64 yrank, .int .i64 yday, .slice ypa ypools.length ypc] := Blk.new _ _ _
  have HD := Lib.hid (fun (W : World) => isIn_any yday 1 2 W)
  have HR := Lib.hid (fun (W : World) => isIn_any yrank 1 12 W)
  dsimp only
  by_cases h0 : yday = 0
  · subst h0
    rw [if_pos rfl]
    go_enter Tryz.func149, Tryz.ntmps149
    go_wp2_with fail
    go_ret
    exact ⟨by first | rfl | simp, g0⟩
  · rw [if_neg h0]
    have h1 : (yday == 0) = false := by simpa using h0
    generalize isInB yday 1 2 = A at *
    generalize isInB yrank 1 12 = B at *
    cases A
    all_goals
      go_enter Tryz.func149, Tryz.ntmps149
      go_wp2_with (first | (go_at_call 94; refine (HD.out _).mono ?_; rintro e w1 ⟨rfl, hG1⟩; clear HD; replace b0 := b0.keep hG1; replace g0 := g0.t hG1; clear hG1; have m2 := b0.cell 2; have l0 := b0.lt) | (go_at_call 94; refine (HR.out _).mono ?_; rintro e w2 ⟨rfl, hG1⟩; replace g0 := g0.t hG1; clear hG1))
      go_ret
      exact ⟨rfl, g0⟩
theorem in163 (n : Int) (w : World) : Calls Tryz.prog 163 #[.int .i64 n] w fun e w' => e = .returned (.bool (isInB n 0 1000)) ∧ G w w' := by
  have HD := Lib.hid (fun (W : World) => isIn_any n 0 1000 W)
  go_enter Tryz.func163, Tryz.ntmps163
  go_wp2_with (go_at_call 94; refine (HD.out _).mono ?_; rintro e w1 ⟨rfl, hG1⟩)
  go_ret
  exact ⟨rfl, hG1⟩
def tableB (l : List Int) : Bool := isInB l.length 1 8 && (allU (fun i => isInB (l.getD i 0) 0 1000) l.length && decide (l.sum ≤ 1000))
theorem sumTo_bd {l : List Int} (h : ∀ i, i < l.length → 0 ≤ l.getD i 0 ∧ l.getD i 0 ≤ 1000) : ∀ k, k ≤ l.length → 0 ≤ sumTo l k ∧ sumTo l k ≤ k * 1000
  | 0, _ => by simp [sumTo]
  | k + 1, hk => by
    have a := sumTo_bd h k (by omega)
    have b := h k (by omega)
    rw [sumTo_succ l k (by omega)]
    omega
theorem table_any (l : List Int) (a : Option Addr) (cap : Nat) (w : World) (h : IntsAt w a l) (hl : l.length ≤ 1000) : Calls Tryz.prog 148 #[.slice a l.length cap] w fun e w' => e = .returned (.bool (tableB l)) ∧ G w w' := by
  have HL := Lib.hid (fun (W : World) => isIn_any (l.length : Nat) 1 8 W)
  have HE := Lib.hid (fun (W : World) (hW : G w W) => eachInt_any 163 (enters_of Tryz.func163 (by kernel_rfl) rfl) #[] W a cap l (fun i => isInB (l.getD i 0) 0 1000) hl (h.below hW) (fun W' _ i _ => in163 _ W'))
  have HS := Lib.hid (fun (hb : allU (fun i => isInB (l.getD i 0) 0 1000) l.length = true) (W : World) (hW : G w W) => sum_any l a cap W (h.below hW) hl (fun k hk => by
    have hb2 : ∀ i, i < l.length → 0 ≤ l.getD i 0 ∧ l.getD i 0 ≤ 1000 := fun i hi => by
      have := allU_iff.1 hb i hi
      unfold isInB at this
      simp only [Bool.and_eq_true, decide_eq_true_eq] at this
      exact this
    have := sumTo_bd hb2 k hk
    omega))
  clear h
  have g0 := G.rf w
  unfold tableB
  generalize isInB (l.length : Nat) 1 8 = A at *
  generalize allU (fun i => isInB (l.getD i 0) 0 1000) l.length = B at *
  cases A
  · clear HE HS
    go_enter Tryz.func148, Tryz.ntmps148
    go_wp2_with (go_at_call 94; refine (HL.out _).mono ?_; rintro e w1 ⟨rfl, hG1⟩; replace g0 := g0.t hG1)
    go_ret
    exact ⟨rfl, g0⟩
  · cases B
    · clear HS
      go_enter Tryz.func148, Tryz.ntmps148
      go_wp2_with (first | (go_at_call 94; refine (HL.out _).mono ?_; rintro e w1 ⟨rfl, hG1⟩; replace g0 := g0.t hG1; clear hG1) | (go_at_call 71; refine (HE.out _ g0).mono ?_; rintro e w2 ⟨rfl, hG1⟩; replace g0 := g0.t hG1; clear hG1))
      go_ret
      exact ⟨rfl, g0⟩
    · have HS2 := Lib.hid (HS.out rfl)
      clear HS
      go_enter Tryz.func148, Tryz.ntmps148
      go_wp2_with (first | (go_at_call 94; refine (HL.out _).mono ?_; rintro e w1 ⟨rfl, hG1⟩; replace g0 := g0.t hG1; clear hG1) | (go_at_call 71; refine (HE.out _ g0).mono ?_; rintro e w2 ⟨rfl, hG1⟩; replace g0 := g0.t hG1; clear hG1) | (go_at_call 75; refine (HS2.out _ g0).mono ?_; rintro e w3 ⟨rfl, hG1⟩; replace g0 := g0.t hG1; clear hG1))
      go_ret
      exact ⟨rfl, g0⟩
def kindB (x : Po) : Bool := if x.kind = 1 then tableB x.table && decide (x.quota = 0) else if x.kind = 2 then decide (x.table.length = 0) && isInB x.quota 1 20 else if x.kind = 3 then decide (x.table.length = 0) && decide (x.quota = 0) else false
set_option maxHeartbeats 1000000 in
theorem kind_any (x : Po) (w : World) (h : IntsAt w x.ta x.table) (hl : x.table.length ≤ 1000) : Calls Tryz.prog 115 #[.agg x.v] w fun e w' => e = .returned (.bool (kindB x)) ∧ G w w' := by
  obtain ⟨ystake, ycut, ykind, yta, ytc, ytable, yquota, yfirst⟩ := x
  dsimp only at h hl
  have HT := Lib.hid (fun (W : World) (hW : G w W) => table_any ytable yta ytc W (h.below hW) hl)
  have HQ := Lib.hid (fun (W : World) => isIn_any yquota 1 20 W)
  clear h
  unfold kindB Po.v
  dsimp only
  have g0 : G w (w.alloc (.cells #[.int .i64 ystake, .int .i64 ycut, .int .i64 ykind, .slice yta ytable.length ytc, .int .i64 yquota, .bool yfirst] 42)) := (G.rf _).a _
  have b0 : Blk (w.alloc (.cells #[.int .i64 ystake, .int .i64 ycut, .int .i64 ykind, .slice yta ytable.length ytc, .int .i64 yquota, .bool yfirst] 42)) w.heap.size 42 #[.int .i64 ystake, .int .i64 ycut, .int .i64 ykind, .slice yta ytable.length ytc, .int .i64 yquota, .bool yfirst] := Blk.new _ _ _
  by_cases h1 : ykind = 1
  · subst h1
    rw [if_pos rfl]
    generalize tableB ytable = A at *
    cases A
    all_goals
      go_enter Tryz.func115, Tryz.ntmps115
      go_wp2_with (go_at_call 148; refine (HT.out _ g0).mono ?_; rintro e w1 ⟨rfl, hG1⟩; replace b0 := b0.keep hG1; replace g0 := g0.t hG1; clear hG1; have m4 := b0.cell 4; have l0 := b0.lt)
      go_ret
      exact ⟨by first | rfl | (simp; done) | (congr 1; simp), g0⟩
  have k1 : (ykind == 1) = false := by simpa using h1
  rw [if_neg h1]
  by_cases h2 : ykind = 2
  · subst h2
    rw [if_pos rfl]
    clear HT
    generalize ytable.length = n at *
    rcases n with _ | n
    · go_enter Tryz.func115, Tryz.ntmps115
      go_wp2_with (go_at_call 94; refine (HQ.out _).mono ?_; rintro e w1 ⟨rfl, hG1⟩; replace g0 := g0.t hG1; clear hG1)
      go_ret
      exact ⟨by first | rfl | (simp; done) | (congr 1; simp), g0⟩
    · have t1 : (((n + 1 : Nat) : Int) == 0) = false := by simp; omega
      have t2 : ((n : Int) + 1 == 0) = false := by simp; omega
      go_enter Tryz.func115, Tryz.ntmps115
      go_wp2_with fail
      go_ret
      exact ⟨by first | rfl | (simp; done) | (congr 1; simp), g0⟩
  have k2 : (ykind == 2) = false := by simpa using h2
  rw [if_neg h2]
  by_cases h3 : ykind = 3
  · subst h3
    rw [if_pos rfl]
    clear HT
    generalize ytable.length = n at *
    rcases n with _ | n
    · go_enter Tryz.func115, Tryz.ntmps115
      go_wp2_with fail
      go_ret
      exact ⟨by first | rfl | (simp; done) | (congr 1; simp), g0⟩
    · have t1 : (((n + 1 : Nat) : Int) == 0) = false := by simp; omega
      have t2 : ((n : Int) + 1 == 0) = false := by simp; omega
      go_enter Tryz.func115, Tryz.ntmps115
      go_wp2_with fail
      go_ret
      exact ⟨by first | rfl | (simp; done) | (congr 1; simp), g0⟩
  have k3 : (ykind == 3) = false := by simpa using h3
  rw [if_neg h3]
  go_enter Tryz.func115, Tryz.ntmps115
  go_wp2_with fail
  go_ret
  exact ⟨rfl, g0⟩
def poolB (x : Po) : Bool := isInB x.stake 0 100000 && (isInB x.cut 0 1000 && kindB x)
set_option maxHeartbeats 1000000 in
theorem pool_any (x : Po) (w : World) (h : IntsAt w x.ta x.table) (hl : x.table.length ≤ 1000) : Calls Tryz.prog 90 #[.agg x.v] w fun e w' => e = .returned (.bool (poolB x)) ∧ G w w' := by
  have HK := Lib.hid (fun (W : World) (hW : G w W) => kind_any x W (h.below hW) hl)
  have HS := Lib.hid (fun (W : World) => isIn_any x.stake 0 100000 W)
  have HC := Lib.hid (fun (W : World) => isIn_any x.cut 0 1000 W)
  clear h
  unfold poolB
  generalize kindB x = C at *
  obtain ⟨ystake, ycut, ykind, yta, ytc, ytable, yquota, yfirst⟩ := x
  unfold Po.v at *
  dsimp only at *
  have g0 : G w (w.alloc (.cells #[.int .i64 ystake, .int .i64 ycut, .int .i64 ykind, .slice yta ytable.length ytc, .int .i64 yquota, .bool yfirst] 42)) := (G.rf _).a _
  have b0 : Blk (w.alloc (.cells #[.int .i64 ystake, .int .i64 ycut, .int .i64 ykind, .slice yta ytable.length ytc, .int .i64 yquota, .bool yfirst] 42)) w.heap.size 42 #[.int .i64 ystake, .int .i64 ycut, .int .i64 ykind, .slice yta ytable.length ytc, .int .i64 yquota, .bool yfirst] := Blk.new _ _ _
  generalize isInB ystake 0 100000 = A at *
  generalize isInB ycut 0 1000 = B at *
  cases A
  · go_enter Tryz.func90, Tryz.ntmps90
    go_wp2_with (go_at_call 94; refine (HS.out _).mono ?_; rintro e w1 ⟨rfl, hG1⟩; replace g0 := g0.t hG1; clear hG1)
    go_ret
    exact ⟨rfl, g0⟩
  · cases B
    all_goals
      go_enter Tryz.func90, Tryz.ntmps90
      go_wp2_with (first | (go_at_call 94; refine (HS.out _).mono ?_; rintro e w1 ⟨rfl, hG1⟩; clear HS; replace b0 := b0.keep hG1; replace g0 := g0.t hG1; clear hG1; have m1 := b0.cell 1; have l0 := b0.lt) | (go_at_call 94; refine (HC.out _).mono ?_; rintro e w2 ⟨rfl, hG1⟩; clear HC m1 l0; replace b0 := b0.keep hG1; replace g0 := g0.t hG1; clear hG1; have m0 := b0.cell 0; have m1 := b0.cell 1; have m2 := b0.cell 2; have m3 := b0.cell 3; have m4 := b0.cell 4; have m5 := b0.cell 5; have l0 := b0.lt) | (go_at_call 115; refine (HK.out _ g0).mono ?_; rintro e w3 ⟨rfl, hG1⟩; replace g0 := g0.t hG1; clear hG1))
      go_ret
      exact ⟨rfl, g0⟩
end Go.Proofs.YtnkmcoljijmgpaaGreat

set_option linter.unusedSimpArgs false
set_option linter.unusedVariables false
namespace Go.Proofs.YtnkmcoljijmgpaaGreat
open Go.RowKit Go.Shelf
attribute [local go_sem] Oper.semAt_some
theorem isPool_any (r : Ra) (n : Int) (w : World) (hp : r.pools.length ≤ 1000) : Calls Tryz.prog 70 #[.agg r.v, .int .i64 n] w fun e w' => e = .returned (.bool (isInB n 0 ((r.pools.length : Int) - 1))) ∧ G w w' := by
  obtain ⟨ra, rc, racers, pa, pc, pools, ta, tc, protests⟩ := r
  unfold Ra.v
  dsimp only at *
  have HI := Lib.hid (fun (W : World) => isIn_any n 0 ((pools.length : Int) - 1) W)
  have x1 : IntKind.i64.wrap ((pools.length : Int) - 1) = (pools.length : Int) - 1 := IntWalk.i64_in _ (by omega)
  have g0 : G w (w.alloc (.cells #[.slice ra racers.length rc, .slice pa pools.length pc, .slice ta protests.length tc] 26)) := (G.rf _).a _
  go_enter Tryz.func70, Tryz.ntmps70
  go_wp2_with (go_at_call 94; refine (HI.out _).mono ?_; rintro e w1 ⟨rfl, hG1⟩)
  go_ret
  exact ⟨rfl, g0.t hG1⟩
theorem in150 (r : Ra) (n : Int) (B : Nat) (W : World) (hp : r.pools.length ≤ 1000) (hB : Blk W B 26 r.v) : Calls Tryz.prog 150 #[.int .i64 n, .pointer (some ⟨B, 0, none⟩)] W fun e w' => e = .returned (.bool (isInB n 0 ((r.pools.length : Int) - 1))) ∧ G W w' := by
  have HI := Lib.hid (isPool_any r n W hp)
  generalize isInB n 0 ((r.pools.length : Int) - 1) = A at *
  obtain ⟨ra, rc, racers, pa, pc, pools, ta, tc, protests⟩ := r
  unfold Ra.v at *
  have m0 := hB.cell 0; have m1 := hB.cell 1; have m2 := hB.cell 2
  have l0 := hB.lt
  go_enter Tryz.func150, Tryz.ntmps150
  go_wp2_with (go_at_call 70; refine (HI.out).mono ?_; rintro e w1 ⟨rfl, hG1⟩)
  go_ret
  exact ⟨rfl, hG1⟩
theorem has93 (r : Ra) (b : Int) (B : Nat) (W : World) (h : RowE Rc.v 5 W r.ra r.racers) (hl : r.racers.length ≤ 1000) (hB : Blk W B 26 r.v) : Calls Tryz.prog 93 #[.int .i64 b, .pointer (some ⟨B, 0, none⟩)] W fun e w' => e = .returned (.bool (hasB r.racers b)) ∧ G W w' := by
  have HI := Lib.hid (has_any r.racers r.ra r.rc b W h hl)
  generalize hasB r.racers b = A at *
  obtain ⟨ra, rc, racers, pa, pc, pools, ta, tc, protests⟩ := r
  unfold Ra.v at *
  dsimp only at *
  have m0 := hB.cell 0
  have l0 := hB.lt
  clear h
  go_enter Tryz.func93, Tryz.ntmps93
  go_wp2_with (go_at_call 73; refine (HI.out).mono ?_; rintro e w1 ⟨rfl, hG1⟩)
  go_ret
  exact ⟨rfl, hG1⟩
def racerB (np : Nat) (x : Rc) : Bool := isInB x.bird 0 9999 && (isInB x.owner 0 99 && (rankB x && (ascB x.pools && allU (fun i => isInB (x.pools.getD i 0) 0 ((np : Int) - 1)) x.pools.length)))
set_option maxHeartbeats 4000000 in
theorem racer_any (r : Ra) (x : Rc) (w : World) (h : IntsAt w x.pa x.pools) (hl : x.pools.length ≤ 1000) (hp : r.pools.length ≤ 1000) : Calls Tryz.prog 116 #[.agg r.v, .agg x.v] w fun e w' => e = .returned (.bool (racerB r.pools.length x)) ∧ G w w' := by
  have HB := Lib.hid (fun (W : World) => isIn_any x.bird 0 9999 W)
  have HO := Lib.hid (fun (W : World) => isIn_any x.owner 0 99 W)
  have HR := Lib.hid (fun (W : World) => rank_any x W)
  have HA := Lib.hid (fun (W : World) (hW : G w W) => asc_any x.pools x.pa x.pc W (h.below hW) hl)
  have HE := Lib.hid (fun (W : World) (hW : G w W) (hB : Blk W w.heap.size 26 r.v) => eachInt_any 150 (enters_of Tryz.func150 (by kernel_rfl) rfl) #[.pointer (some ⟨w.heap.size, 0, none⟩)] W x.pa x.pc x.pools (fun i => isInB (x.pools.getD i 0) 0 ((r.pools.length : Int) - 1)) hl (h.below hW) (fun W' hW' i _ => in150 r _ w.heap.size W' hp (hB.keep hW')))
  clear h
  unfold racerB
  generalize rankB x = C at *
  generalize ascB x.pools = D at *
  generalize allU (fun i => isInB (x.pools.getD i 0) 0 ((r.pools.length : Int) - 1)) x.pools.length = E at *
  generalize isInB x.bird 0 9999 = A at *
  generalize isInB x.owner 0 99 = B at *
  obtain ⟨ra, rc, racers, pa, pc, pools, ta, tc, protests⟩ := r
  obtain ⟨ybird, yowner, yrank, yday, ypa, ypc, ypools⟩ := x
  unfold Ra.v Rc.v at *
  dsimp only at *
  have g0 : G w ((w.alloc (.cells #[.slice ra racers.length rc, .slice pa pools.length pc, .slice ta protests.length tc] 26)).alloc (.cells #[.int .i64 ybird, .int .i64 yowner, .int .i64 yrank, .int .i64 yday, .slice ypa ypools.length ypc] 60)) := ((G.rf _).a _).a _
  have b0 : Blk ((w.alloc (.cells #[.slice ra racers.length rc, .slice pa pools.length pc, .slice ta protests.length tc] 26)).alloc (.cells #[.int .i64 ybird, .int .i64 yowner, .int .i64 yrank, .int .i64 yday, .slice ypa ypools.length ypc] 60)) w.heap.size 26 #[.slice ra racers.length rc, .slice pa pools.length pc, .slice ta protests.length tc] := (Blk.new w _ _).alloc _
  have d0 : Blk ((w.alloc (.cells #[.slice ra racers.length rc, .slice pa pools.length pc, .slice ta protests.length tc] 26)).alloc (.cells #[.int .i64 ybird, .int .i64 yowner, .int .i64 yrank, .int .i64 yday, .slice ypa ypools.length ypc] 60)) (w.heap.size + 1) 60 #[.int .i64 ybird, .int .i64 yowner, .int .i64 yrank, .int .i64 yday, .slice ypa ypools.length ypc] := Blk.new1 w _ 60 _
  have key : A = false ∨ (A = true ∧ B = false) ∨ (A = true ∧ B = true ∧ C = false) ∨ (A = true ∧ B = true ∧ C = true ∧ D = false) ∨ (A = true ∧ B = true ∧ C = true ∧ D = true) := by
    cases A <;> cases B <;> cases C <;> cases D <;> simp
  rcases key with rfl | ⟨rfl, rfl⟩ | ⟨rfl, rfl, rfl⟩ | ⟨rfl, rfl, rfl, rfl⟩ | ⟨rfl, rfl, rfl, rfl⟩
  all_goals
    go_enter Tryz.func116, Tryz.ntmps116
    go_wp2_with (first | (go_at_call 94; refine (HB.out _).mono ?_; rintro e w1 ⟨rfl, hG1⟩; clear HB; replace b0 := b0.keep hG1; replace d0 := d0.keep hG1; replace g0 := g0.t hG1; clear hG1; have m0 := b0.cell 0; have m1 := b0.cell 1; have m2 := b0.cell 2; have n0 := d0.cell 0; have n1 := d0.cell 1; have n2 := d0.cell 2; have n3 := d0.cell 3; have n4 := d0.cell 4; have l0 := b0.lt; have l1 := d0.lt) | (go_at_call 94; refine (HO.out _).mono ?_; rintro e w2 ⟨rfl, hG1⟩; clear HO; clear m0 m1 m2 n0 n1 n2 n3 n4 l0 l1; replace b0 := b0.keep hG1; replace d0 := d0.keep hG1; replace g0 := g0.t hG1; clear hG1; have m0 := b0.cell 0; have m1 := b0.cell 1; have m2 := b0.cell 2; have n0 := d0.cell 0; have n1 := d0.cell 1; have n2 := d0.cell 2; have n3 := d0.cell 3; have n4 := d0.cell 4; have l0 := b0.lt; have l1 := d0.lt) | (go_at_call 149; refine (HR.out _).mono ?_; rintro e w3 ⟨rfl, hG1⟩; clear m0 m1 m2 n0 n1 n2 n3 n4 l0 l1; replace b0 := b0.keep hG1; replace d0 := d0.keep hG1; replace g0 := g0.t hG1; clear hG1; have m0 := b0.cell 0; have m1 := b0.cell 1; have m2 := b0.cell 2; have n0 := d0.cell 0; have n1 := d0.cell 1; have n2 := d0.cell 2; have n3 := d0.cell 3; have n4 := d0.cell 4; have l0 := b0.lt; have l1 := d0.lt) | (go_at_call 92; refine (HA.out _ g0).mono ?_; rintro e w4 ⟨rfl, hG1⟩; clear m0 m1 m2 n0 n1 n2 n3 n4 l0 l1; replace b0 := b0.keep hG1; replace d0 := d0.keep hG1; replace g0 := g0.t hG1; clear hG1; have m0 := b0.cell 0; have m1 := b0.cell 1; have m2 := b0.cell 2; have n0 := d0.cell 0; have n1 := d0.cell 1; have n2 := d0.cell 2; have n3 := d0.cell 3; have n4 := d0.cell 4; have l0 := b0.lt; have l1 := d0.lt) | (go_at_call 71; refine (HE.out _ g0 b0).mono ?_; rintro e w5 ⟨rfl, hG1⟩; replace g0 := g0.t hG1; clear hG1))
    go_ret
    exact ⟨rfl, g0⟩
/-- the first racers of a row -/
theorem RowE.take {α : Type} [Inhabited α] {v : α → Array Value} {k : Nat} {W : World} {a : Option Addr} {l : List α} (h : RowE v k W a l) (i : Nat) : RowE v k W a (l.take i) := by
  rcases h with h | ⟨g, off, h1, h2, h3⟩
  · exact .inl (by rw [List.length_take]; omega)
  · refine .inr ⟨g, off, h1, h2, fun j hj r hr => ?_⟩
    rw [List.length_take] at hj
    have e : (l.take i).getD j default = l.getD j default := by
      rw [List.getD_eq_getElem?_getD, List.getD_eq_getElem?_getD, List.getElem?_take_of_lt (by omega)]
    rw [e]
    exact h3 j (by omega) r hr
def racersB (r : Ra) : Bool := decide (r.racers.length ≤ 12) && allU (fun i => !hasB (r.racers.take i) (r.racers.getD i default).bird && racerB r.pools.length (r.racers.getD i default)) r.racers.length
set_option maxRecDepth 100000 in
set_option maxHeartbeats 8000000 in
theorem racers_any (r : Ra) (w : World) (h : r.At w) : Calls Tryz.prog 91 #[.agg r.v] w fun e w' => e = .returned (.bool (racersB r)) ∧ G w w' := by
  have HH := Lib.hid (fun (i : Nat) (hi : i < r.racers.length) (W : World) (hW : G w W) (cap : Nat) => has_any (r.racers.take i) r.ra cap (r.racers.getD i default).bird W ((h.rs.below hW).row.take i) (by rw [List.length_take]; have := h.nr; omega))
  have HX := Lib.hid (fun (i : Nat) (hi : i < r.racers.length) (W : World) (hW : G w W) => racer_any r (r.racers.getD i default) W ((h.rs.below hW).pools i hi) (h.nq i hi) h.np)
  have hrow := h.rs.row
  have hnr := h.nr
  have hcr := h.cr
  have HT : Hid (r.racers.length ≤ 12 → (∀ i, i < r.racers.length → (!hasB (r.racers.take i) (r.racers.getD i default).bird && racerB r.pools.length (r.racers.getD i default)) = true) → racersB r = true) := fun a b => by
    unfold racersB
    rw [decide_eq_true a, allU_iff.2 b]
    rfl
  have HF : Hid (∀ i, i < r.racers.length → (!hasB (r.racers.take i) (r.racers.getD i default).bird && racerB r.pools.length (r.racers.getD i default)) = false → racersB r = false) := fun i hi hb => by
    unfold racersB
    cases hv : allU (fun i => !hasB (r.racers.take i) (r.racers.getD i default).bird && racerB r.pools.length (r.racers.getD i default)) r.racers.length
    · simp
    · rw [allU_iff.1 hv i hi] at hb; cases hb
  have HN : Hid (12 < r.racers.length → racersB r = false) := fun a => by
    unfold racersB
    rw [decide_eq_false (by omega)]
    rfl
  clear h
  generalize racersB r = RES at *
  obtain ⟨hasF, hhas⟩ : ∃ hasF : Nat → Bool, hasF = fun i => hasB (r.racers.take i) (r.racers.getD i default).bird := ⟨_, rfl⟩
  obtain ⟨okF, hok⟩ : ∃ okF : Nat → Bool, okF = fun i => racerB r.pools.length (r.racers.getD i default) := ⟨_, rfl⟩
  have HH2 : Hid (∀ (i : Nat) (hi : i < r.racers.length) (W : World) (hW : G w W) (cap : Nat), Calls Tryz.prog 73 #[.slice r.ra i cap, .int .i64 (r.racers.getD i default).bird] W fun e w' => e = .returned (.bool (hasF i)) ∧ G W w') := fun i hi W hW cap => by
    have := HH.out i hi W hW cap
    rw [List.length_take, Nat.min_eq_left (by omega)] at this
    rw [hhas]
    exact this
  have HX2 : Hid (∀ (i : Nat) (hi : i < r.racers.length) (W : World) (hW : G w W), Calls Tryz.prog 116 #[.agg r.v, .agg (r.racers.getD i default).v] W fun e w' => e = .returned (.bool (okF i)) ∧ G W w') := fun i hi W hW => by
    rw [hok]
    exact HX.out i hi W hW
  have HT2 : Hid (r.racers.length ≤ 12 → (∀ i, i < r.racers.length → (!hasF i && okF i) = true) → RES = true) := by rw [hhas, hok]; exact HT
  have HF2 : Hid (∀ i, i < r.racers.length → (!hasF i && okF i) = false → RES = false) := by rw [hhas, hok]; exact HF
  clear HH HX HT HF hhas hok
  obtain ⟨ra, rc, racers, pa, pc, pools, ta, tc, protests⟩ := r
  unfold Ra.v at *
  dsimp only at *
  have g0 : G w (w.alloc (.cells #[.slice ra racers.length rc, .slice pa pools.length pc, .slice ta protests.length tc] 26)) := (G.rf _).a _
  have b0 : Blk (w.alloc (.cells #[.slice ra racers.length rc, .slice pa pools.length pc, .slice ta protests.length tc] 26)) w.heap.size 26 #[.slice ra racers.length rc, .slice pa pools.length pc, .slice ta protests.length tc] := Blk.new _ _ _
  by_cases h12 : 12 < racers.length
  · have t1 : (12 : Int) < racers.length := by omega
    have HZ := Lib.hid (HN.out h12)
    go_enter Tryz.func91, Tryz.ntmps91
    go_wp2_with fail
    go_ret
    exact ⟨by rw [HZ.out]; rfl, g0⟩
  have t1 : ¬ (12 : Int) < racers.length := by omega
  go_enter Tryz.func91, Tryz.ntmps91
  go_upto_region 3 with fail
  change Code.wp _ _ _ _ (w.alloc (.cells #[.slice ra racers.length rc, .slice pa pools.length pc, .slice ta protests.length tc] 26))
  generalize w.alloc (.cells #[.slice ra racers.length rc, .slice pa pools.length pc, .slice ta protests.length tc] 26) = w1 at *
  have m0 := b0.cell 0
  have lb := b0.lt
  go_wp2_with fail
  clear m0 lb
  go_loopw [12] (fun i wr => ∃ k : Nat, k ≤ racers.length ∧ i = .int .i64 k ∧ Hid (∀ j, j < k → (!hasF j && okF j) = true) ∧ G w1 wr) (fun i _ => racers.length - (intOf i).toNat)
  case atStart => exact ⟨0, Nat.zero_le _, rfl, fun j hj => by omega, G.rf _⟩
  case round =>
    obtain ⟨k, hk, rfl, hno, hG⟩ := hrel
    obtain ⟨wo, rfl⟩ : ∃ wo, wo = wr := ⟨_, rfl⟩
    by_cases hlt : k < racers.length
    · have hki : (k : Int) < racers.length := by omega
      rcases hrow with h | ⟨g, off, rfl, hg, hcell⟩
      · omega
      have lg := Nat.lt_of_lt_of_le hg (g0.t hG).size
      have hcl := fun r hr => ((bcellB (g0.t hG)).1 g _ hg).trans (hcell k hlt r hr)
      have HH3 := Lib.hid (HH2.out k hlt)
      have HX3 := Lib.hid (HX2.out k hlt)
      have HF3 := Lib.hid (HF2.out k hlt)
      obtain ⟨y, hy⟩ : ∃ y, y = racers.getD k default := ⟨_, rfl⟩
      rw [← hy] at hcl HH3 HX3
      clear hy hcell
      obtain ⟨ybird, yowner, yrank, yday, ypa, ypc, ypools⟩ := y
      unfold Rc.v at hcl HX3
      dsimp only at HH3
      have q0 : wo.cell? ⟨g, off + k * 5, none⟩ = some (.int .i64 ybird) := hcl 0 (by omega)
      have q1 : wo.cell? ⟨g, off + k * 5 + 1, none⟩ = some (.int .i64 yowner) := hcl 1 (by omega)
      have q2 : wo.cell? ⟨g, off + k * 5 + 2, none⟩ = some (.int .i64 yrank) := hcl 2 (by omega)
      have q3 : wo.cell? ⟨g, off + k * 5 + 3, none⟩ = some (.int .i64 yday) := hcl 3 (by omega)
      have q4 : wo.cell? ⟨g, off + k * 5 + 4, none⟩ = some (.slice ypa ypools.length ypc) := hcl 4 (by omega)
      clear hcl
      go_upto_region 6 with fail
      have b1 := b0.keep hG
      have hgo : G w1 (wo.alloc (.cells #[.int .i64 ybird, .int .i64 yowner, .int .i64 yrank, .int .i64 yday, .slice ypa ypools.length ypc] 60)) := hG.a _
      have bx : Blk (wo.alloc (.cells #[.int .i64 ybird, .int .i64 yowner, .int .i64 yrank, .int .i64 yday, .slice ypa ypools.length ypc] 60)) wo.heap.size 60 #[.int .i64 ybird, .int .i64 yowner, .int .i64 yrank, .int .i64 yday, .slice ypa ypools.length ypc] := Blk.new _ _ _
      have bb := b0.keep hgo
      clear q0 q1 q2 q3 q4 lg
      change Code.wp _ _ _ _ (wo.alloc (.cells #[.int .i64 ybird, .int .i64 yowner, .int .i64 yrank, .int .i64 yday, .slice ypa ypools.length ypc] 60))
      obtain ⟨gx, hgx⟩ : ∃ gx, gx = wo.heap.size := ⟨_, rfl⟩
      rw [← hgx] at bx ⊢
      clear hgx
      generalize wo.alloc (.cells #[.int .i64 ybird, .int .i64 yowner, .int .i64 yrank, .int .i64 yday, .slice ypa ypools.length ypc] 60) = w2 at *
      have hSk : ∀ W', G w2 W' → ((W'.cell? ⟨w.heap.size, 0, none⟩ = some (.slice (some ⟨g, off, none⟩) racers.length rc) ∧ W'.cell? ⟨w.heap.size, 1, none⟩ = some (.slice pa pools.length pc) ∧ W'.cell? ⟨w.heap.size, 2, none⟩ = some (.slice ta protests.length tc)) ∧ Blk W' gx 60 #[.int .i64 ybird, .int .i64 yowner, .int .i64 yrank, .int .i64 yday, .slice ypa ypools.length ypc]) := fun W' hW => ⟨⟨(bb.keep hW).cell 0, (bb.keep hW).cell 1, (bb.keep hW).cell 2⟩, bx.keep hW⟩
      refine wp_region_Y (S := fun W' => (W'.cell? ⟨w.heap.size, 0, none⟩ = some (.slice (some ⟨g, off, none⟩) racers.length rc) ∧ W'.cell? ⟨w.heap.size, 1, none⟩ = some (.slice pa pools.length pc) ∧ W'.cell? ⟨w.heap.size, 2, none⟩ = some (.slice ta protests.length tc)) ∧ Blk W' gx 60 #[.int .i64 ybird, .int .i64 yowner, .int .i64 yrank, .int .i64 yday, .slice ypa ypools.length ypc]) 12 13 rfl (by kernel_rfl) (hSk _ (G.rf _).d) (fun hS => ?_)
      have ga := (G.rf w2).d
      refine wpAnyY_take (i := 0) (v := ?_) rfl (by kernel_rfl) (by kernel_rfl) (by kernel_rfl) (by kernel_rfl) (fun _ _ _ h => h) (Or.inl ⟨by kernel_rfl, ?_⟩) hS ?_
      rotate_left
      · intro w' hSw; obtain ⟨⟨s0, s1, s2⟩, hx⟩ := hSw; go_simp; with_reducible rfl
      try simp only [Act.put, List.getElem_toArray, List.getElem_cons_zero, List.getElem_cons_succ, List.setIfInBounds_toArray, List.set_cons_zero, List.set_cons_succ]
      refine wpAnyY_take (i := 1) (v := ?_) rfl (by kernel_rfl) (by kernel_rfl) (by kernel_rfl) (by kernel_rfl) (fun _ _ _ h => h) (Or.inl ⟨by kernel_rfl, ?_⟩) hS ?_
      rotate_left
      · intro w' hSw; obtain ⟨⟨s0, s1, s2⟩, hx⟩ := hSw; go_simp; with_reducible rfl
      try simp only [Act.put, List.getElem_toArray, List.getElem_cons_zero, List.getElem_cons_succ, List.setIfInBounds_toArray, List.set_cons_zero, List.set_cons_succ]
      refine wpAnyY_take (i := 2) (v := ?_) rfl (by kernel_rfl) (by kernel_rfl) (by kernel_rfl) (by kernel_rfl) (fun _ _ _ h => h) (Or.inl ⟨by kernel_rfl, ?_⟩) hS ?_
      rotate_left
      · intro w' hSw; go_simp; with_reducible rfl
      try simp only [Act.put, List.getElem_toArray, List.getElem_cons_zero, List.getElem_cons_succ, List.setIfInBounds_toArray, List.set_cons_zero, List.set_cons_succ]
      refine wpAnyY_take (i := 4) (v := ?_) rfl (by kernel_rfl) (by kernel_rfl) (by kernel_rfl) (by kernel_rfl) (fun _ _ _ h => h) (Or.inl ⟨by kernel_rfl, ?_⟩) hS ?_
      rotate_left
      · intro w' hSw; go_simp; with_reducible rfl
      try simp only [Act.put, List.getElem_toArray, List.getElem_cons_zero, List.getElem_cons_succ, List.setIfInBounds_toArray, List.set_cons_zero, List.set_cons_succ]
      refine wpAnyY_take (i := 5) (v := ?_) rfl (by kernel_rfl) (by kernel_rfl) (by kernel_rfl) (by kernel_rfl) (fun _ _ _ h => h) (Or.inl ⟨by kernel_rfl, ?_⟩) hS ?_
      rotate_left
      · intro w' hSw; have n0 := hSw.2.cell 0; have ln := hSw.2.lt; go_simp; with_reducible rfl
      try simp only [Act.put, List.getElem_toArray, List.getElem_cons_zero, List.getElem_cons_succ, List.setIfInBounds_toArray, List.set_cons_zero, List.set_cons_succ]
      have hkc : (k : Int) ≤ rc := by omega
      have hkc2 : k ≤ rc := by omega
      refine wpAnyY_oneSW (i := 3) (by kernel_rfl) rfl (by kernel_rfl) (fun K3 hK3 => ?_)
      go_simp
      refine hK3.out _ _ (hSk _ ga) (fun hS => ?_)
      clear hK3
      try simp only [Act.put, List.getElem_toArray, List.getElem_cons_zero, List.getElem_cons_succ, List.setIfInBounds_toArray, List.set_cons_zero, List.set_cons_succ]
      refine wpAnyY_oneSW (i := 6) (by kernel_rfl) rfl (by kernel_rfl) (fun K6 hK6 => ?_)
      go_simp
      refine (HH3.out _ (g0.t (hgo.t ga)) _).mono ?_
      rintro e w3 ⟨rfl, hG3⟩
      replace ga := ga.t hG3
      refine hK6.out _ _ (hSk _ ga) (fun hS => ?_)
      clear hK6
      try simp only [Act.put, List.getElem_toArray, List.getElem_cons_zero, List.getElem_cons_succ, List.setIfInBounds_toArray, List.set_cons_zero, List.set_cons_succ]
      refine wpAnyY_take (i := 7) (v := ?_) rfl (by kernel_rfl) (by kernel_rfl) (by kernel_rfl) (by kernel_rfl) (fun _ _ _ h => h) (Or.inl ⟨by kernel_rfl, ?_⟩) hS ?_
      rotate_left
      · intro w' hSw; go_simp; with_reducible rfl
      try simp only [Act.put, List.getElem_toArray, List.getElem_cons_zero, List.getElem_cons_succ, List.setIfInBounds_toArray, List.set_cons_zero, List.set_cons_succ]
      obtain ⟨hv, hhv⟩ : ∃ hv, hv = hasF k := ⟨_, rfl⟩
      obtain ⟨ov, hov⟩ : ∃ ov, ov = okF k := ⟨_, rfl⟩
      have HKV : Hid ((!hasF k && okF k) = (!hv && ov)) := by rw [hhv, hov]; rfl
      have HX4 := Lib.hid HX3.out
      rw [← hov] at HX4
      rw [← hhv]
      clear hhv hov HX3 HH3
      cases hv
      ·
        refine wpAnyY_take (i := 8) (v := ?_) rfl (by kernel_rfl) (by kernel_rfl) (by kernel_rfl) (by kernel_rfl) (fun _ _ _ h => h) (Or.inl ⟨by kernel_rfl, ?_⟩) hS ?_
        rotate_left
        · intro w' hSw; obtain ⟨⟨s0, s1, s2⟩, hx⟩ := hSw; go_simp; with_reducible rfl
        try simp only [Act.put, List.getElem_toArray, List.getElem_cons_zero, List.getElem_cons_succ, List.setIfInBounds_toArray, List.set_cons_zero, List.set_cons_succ]
        refine wpAnyY_take (i := 9) (v := ?_) rfl (by kernel_rfl) (by kernel_rfl) (by kernel_rfl) (by kernel_rfl) (fun _ _ _ h => h) (Or.inl ⟨by kernel_rfl, ?_⟩) hS ?_
        rotate_left
        · intro w' hSw; have n0 := hSw.2.cell 0; have n1 := hSw.2.cell 1; have n2 := hSw.2.cell 2; have n3 := hSw.2.cell 3; have n4 := hSw.2.cell 4; go_simp; with_reducible rfl
        try simp only [Act.put, List.getElem_toArray, List.getElem_cons_zero, List.getElem_cons_succ, List.setIfInBounds_toArray, List.set_cons_zero, List.set_cons_succ]
        refine wpAnyY_oneSW (i := 10) (by kernel_rfl) rfl (by kernel_rfl) (fun K10 hK10 => ?_)
        go_simp
        refine (HX4.out _ (g0.t (hgo.t ga))).mono ?_
        rintro e w4 ⟨rfl, hG4⟩
        replace ga := ga.t hG4
        refine hK10.out _ _ (hSk _ ga) (fun hS => ?_)
        clear hK10
        try simp only [Act.put, List.getElem_toArray, List.getElem_cons_zero, List.getElem_cons_succ, List.setIfInBounds_toArray, List.set_cons_zero, List.set_cons_succ]
        refine wpAnyY_take (i := 11) (v := ?_) rfl (by kernel_rfl) (by kernel_rfl) (by kernel_rfl) (by kernel_rfl) (fun _ _ _ h => h) (Or.inl ⟨by kernel_rfl, ?_⟩) hS ?_
        rotate_left
        · intro w' hSw; go_simp; with_reducible rfl
        try simp only [Act.put, List.getElem_toArray, List.getElem_cons_zero, List.getElem_cons_succ, List.setIfInBounds_toArray, List.set_cons_zero, List.set_cons_succ]
        refine wpAnyY_oneW (i := 12) (by kernel_rfl) rfl (by kernel_rfl) (by kernel_rfl) (fun K12 hK12 => ?_)
        go_simp
        refine hK12.out _ _ ?_
        clear hK12
        try simp only [Act.put, List.getElem_toArray, List.getElem_cons_zero, List.getElem_cons_succ, List.setIfInBounds_toArray, List.set_cons_zero, List.set_cons_succ]
        refine wpAnyY_done (by kernel_rfl) ?_ _
        clear hS hSk HX4
        cases ov
        · have HZ := Lib.hid (HF3.out (by rw [HKV.out]; rfl))
          go_wp2_with fail
          go_ret
          exact ⟨by rw [HZ.out]; rfl, g0.t (hgo.t ga)⟩
        · clear HF3
          go_wp2_with fail
          go_roundw
          case rel => exact ⟨k + 1, by omega, by go_num, fun j hj => by
            rcases Nat.lt_or_ge j k with h | h
            · exact hno.out j h
            · obtain rfl : j = k := by omega
              rw [HKV.out]; rfl, hgo.t ga⟩
          case measure => simp [intOf] <;> omega
      ·
        refine wpAnyY_take (i := 8) (v := undef) rfl (by kernel_rfl) (by kernel_rfl) (by kernel_rfl) (by kernel_rfl) (fun _ _ _ h => h) (Or.inr ⟨by kernel_rfl, rfl⟩) hS ?_
        try simp only [Act.put, List.getElem_toArray, List.getElem_cons_zero, List.getElem_cons_succ, List.setIfInBounds_toArray, List.set_cons_zero, List.set_cons_succ]
        refine wpAnyY_take (i := 9) (v := undef) rfl (by kernel_rfl) (by kernel_rfl) (by kernel_rfl) (by kernel_rfl) (fun _ _ _ h => h) (Or.inr ⟨by kernel_rfl, rfl⟩) hS ?_
        try simp only [Act.put, List.getElem_toArray, List.getElem_cons_zero, List.getElem_cons_succ, List.setIfInBounds_toArray, List.set_cons_zero, List.set_cons_succ]
        refine wpAnyY_take (i := 10) (v := undef) rfl (by kernel_rfl) (by kernel_rfl) (by kernel_rfl) (by kernel_rfl) (fun _ _ _ h => h) (Or.inr ⟨by kernel_rfl, rfl⟩) hS ?_
        try simp only [Act.put, List.getElem_toArray, List.getElem_cons_zero, List.getElem_cons_succ, List.setIfInBounds_toArray, List.set_cons_zero, List.set_cons_succ]
        refine wpAnyY_take (i := 11) (v := undef) rfl (by kernel_rfl) (by kernel_rfl) (by kernel_rfl) (by kernel_rfl) (fun _ _ _ h => h) (Or.inr ⟨by kernel_rfl, rfl⟩) hS ?_
        try simp only [Act.put, List.getElem_toArray, List.getElem_cons_zero, List.getElem_cons_succ, List.setIfInBounds_toArray, List.set_cons_zero, List.set_cons_succ]
        refine wpAnyY_oneW (i := 12) (by kernel_rfl) rfl (by kernel_rfl) (by kernel_rfl) (fun K12 hK12 => ?_)
        go_simp
        refine hK12.out _ _ ?_
        clear hK12
        try simp only [Act.put, List.getElem_toArray, List.getElem_cons_zero, List.getElem_cons_succ, List.setIfInBounds_toArray, List.set_cons_zero, List.set_cons_succ]
        refine wpAnyY_done (by kernel_rfl) ?_ _
        clear hS hSk HX4
        have HZ := Lib.hid (HF3.out (by rw [HKV.out]; rfl))
        go_wp2_with fail
        go_ret
        exact ⟨by rw [HZ.out]; rfl, g0.t (hgo.t ga)⟩
    · obtain rfl : k = racers.length := by omega
      have hki : ¬ ((racers.length : Nat) : Int) < racers.length := by omega
      have HZ := Lib.hid (HT2.out (by omega) hno.out)
      go_wp2_with fail
      go_ret
      exact ⟨by rw [HZ.out]; rfl, g0.t hG⟩
end Go.Proofs.YtnkmcoljijmgpaaGreat

set_option linter.unusedSimpArgs false
set_option linter.unusedVariables false
namespace Go.Proofs.YtnkmcoljijmgpaaGreat
open Go.RowKit Go.Shelf
attribute [local go_sem] Oper.semAt_some
def raceB (r : Ra) : Bool := decide (r.pools.length ≤ 6) && (allU (fun i => poolB (r.pools.getD i default)) r.pools.length && (racersB r && (decide (r.protests.length ≤ 4) && (ascB r.protests && allU (fun i => hasB r.racers (r.protests.getD i 0)) r.protests.length))))
set_option maxRecDepth 100000 in
set_option maxHeartbeats 8000000 in
theorem race_any (r : Ra) (w : World) (h : r.At w) : Calls Tryz.prog 68 #[.agg r.v] w fun e w' => e = .returned (.bool (raceB r)) ∧ G w w' := by
  have HP := Lib.hid (fun (W : World) (hW : G w W) => eachPo_any 90 (enters_of Tryz.func90 (by kernel_rfl) rfl) #[] W r.pa r.pc r.pools (fun i => poolB (r.pools.getD i default)) h.np (h.ps.row.below hW) (fun W' hW' i hi => pool_any _ W' (((h.ps.below hW).below hW').tables i hi) (h.nb i hi)))
  have HR := Lib.hid (fun (W : World) (hW : G w W) => racers_any r W (h.keep hW))
  have HA := Lib.hid (fun (W : World) (hW : G w W) => asc_any r.protests r.ta r.tc W (h.ts.below hW) h.nt)
  have HE := Lib.hid (fun (W : World) (hW : G w W) (hB : Blk W w.heap.size 26 r.v) => eachInt_any 93 (enters_of Tryz.func93 (by kernel_rfl) rfl) #[.pointer (some ⟨w.heap.size, 0, none⟩)] W r.ta r.tc r.protests (fun i => hasB r.racers (r.protests.getD i 0)) h.nt (h.ts.below hW) (fun W' hW' i hi => has93 r _ w.heap.size W' ((h.rs.below hW).below hW').row h.nr (hB.keep hW')))
  clear h
  unfold raceB
  generalize allU (fun i => poolB (r.pools.getD i default)) r.pools.length = B at *
  generalize racersB r = C at *
  generalize ascB r.protests = E at *
  generalize allU (fun i => hasB r.racers (r.protests.getD i 0)) r.protests.length = F at *
  obtain ⟨ra, rc, racers, pa, pc, pools, ta, tc, protests⟩ := r
  unfold Ra.v at *
  dsimp only at *
  have g0 : G w (w.alloc (.cells #[.slice ra racers.length rc, .slice pa pools.length pc, .slice ta protests.length tc] 26)) := (G.rf _).a _
  have b0 : Blk (w.alloc (.cells #[.slice ra racers.length rc, .slice pa pools.length pc, .slice ta protests.length tc] 26)) w.heap.size 26 #[.slice ra racers.length rc, .slice pa pools.length pc, .slice ta protests.length tc] := Blk.new _ _ _
  by_cases h6 : pools.length ≤ 6
  · have t6 : (pools.length : Int) ≤ 6 := by omega
    rw [decide_eq_true h6]
    by_cases h4 : protests.length ≤ 4
    · have t4 : (protests.length : Int) ≤ 4 := by omega
      rw [decide_eq_true h4]
      have key : B = false ∨ (B = true ∧ C = false) ∨ (B = true ∧ C = true ∧ E = false) ∨ (B = true ∧ C = true ∧ E = true) := by
        cases B <;> cases C <;> cases E <;> simp
      rcases key with rfl | ⟨rfl, rfl⟩ | ⟨rfl, rfl, rfl⟩ | ⟨rfl, rfl, rfl⟩
      all_goals
        go_enter Tryz.func68, Tryz.ntmps68
        go_wp2_with (first | (go_at_call 89; refine (HP.out _ g0).mono ?_; rintro e w1 ⟨rfl, hG1⟩; replace b0 := b0.keep hG1; replace g0 := g0.t hG1; clear hG1; have m0 := b0.cell 0; have m1 := b0.cell 1; have m2 := b0.cell 2; have l0 := b0.lt) | (go_at_call 91; refine (HR.out _ g0).mono ?_; rintro e w2 ⟨rfl, hG1⟩; clear m0 m1 m2 l0; replace b0 := b0.keep hG1; replace g0 := g0.t hG1; clear hG1; have m0 := b0.cell 0; have m1 := b0.cell 1; have m2 := b0.cell 2; have l0 := b0.lt) | (go_at_call 92; refine (HA.out _ g0).mono ?_; rintro e w3 ⟨rfl, hG1⟩; clear m0 m1 m2 l0; replace b0 := b0.keep hG1; replace g0 := g0.t hG1; clear hG1; have m0 := b0.cell 0; have m1 := b0.cell 1; have m2 := b0.cell 2; have l0 := b0.lt) | (go_at_call 71; refine (HE.out _ g0 b0).mono ?_; rintro e w4 ⟨rfl, hG1⟩; clear m0 m1 m2 l0; replace b0 := b0.keep hG1; replace g0 := g0.t hG1; clear hG1; have m0 := b0.cell 0; have m1 := b0.cell 1; have m2 := b0.cell 2; have l0 := b0.lt))
        go_ret
        exact ⟨rfl, g0⟩
    · have t4 : ¬ (protests.length : Int) ≤ 4 := by omega
      rw [decide_eq_false h4]
      have key : B = false ∨ (B = true ∧ C = false) ∨ (B = true ∧ C = true) := by
        cases B <;> cases C <;> simp
      rcases key with rfl | ⟨rfl, rfl⟩ | ⟨rfl, rfl⟩
      all_goals
        go_enter Tryz.func68, Tryz.ntmps68
        go_wp2_with (first | (go_at_call 89; refine (HP.out _ g0).mono ?_; rintro e w1 ⟨rfl, hG1⟩; replace b0 := b0.keep hG1; replace g0 := g0.t hG1; clear hG1; have m0 := b0.cell 0; have m1 := b0.cell 1; have m2 := b0.cell 2; have l0 := b0.lt) | (go_at_call 91; refine (HR.out _ g0).mono ?_; rintro e w2 ⟨rfl, hG1⟩; clear m0 m1 m2 l0; replace b0 := b0.keep hG1; replace g0 := g0.t hG1; clear hG1; have m0 := b0.cell 0; have m1 := b0.cell 1; have m2 := b0.cell 2; have l0 := b0.lt))
        go_ret
        exact ⟨rfl, g0⟩
  · have t6 : ¬ (pools.length : Int) ≤ 6 := by omega
    rw [decide_eq_false h6]
    go_enter Tryz.func68, Tryz.ntmps68
    go_wp2_with fail
    go_ret
    exact ⟨rfl, g0⟩
def chk8 (r : Ra) : Int := if raceB r = true then 0 else 80
theorem Check_any (r : Ra) (w : World) (h : r.At w) : Calls Tryz.prog 34 #[.agg r.v] w fun e w' => e = .returned (.int .i64 (chk8 r)) ∧ G w w' := by
  have HR := Lib.hid (fun (W : World) (hW : G w W) => race_any r W (h.keep hW))
  clear h
  unfold chk8
  generalize raceB r = B at *
  obtain ⟨ra, rc, racers, pa, pc, pools, ta, tc, protests⟩ := r
  unfold Ra.v at *
  have g0 : G w (w.alloc (.cells #[.slice ra racers.length rc, .slice pa pools.length pc, .slice ta protests.length tc] 26)) := (G.rf _).a _
  cases B
  all_goals
    go_enter Tryz.func34, Tryz.ntmps34
    go_wp2_with (go_at_call 68; refine (HR.out _ g0).mono ?_; rintro e w1 ⟨rfl, hG1⟩)
    go_ret
    exact ⟨rfl, g0.t hG1⟩
end Go.Proofs.YtnkmcoljijmgpaaGreat

set_option linter.unusedSimpArgs false
set_option linter.unusedVariables false
namespace Go.Proofs.YtnkmcoljijmgpaaGreat
open Go.RowKit Go.Shelf
attribute [local go_sem] Oper.semAt_some
def cmpI (a b : Int) : Int := if a < b then -1 else if b < a then 1 else 0
theorem nan_any (a : Int) (w : World) : Calls Tryz.prog 82 #[.int .i64 a] w fun e w' => e = .returned (.bool false) ∧ w' = w := by
  go_enter Tryz.func82, Tryz.ntmps82
  go_wp2
  go_ret
  exact ⟨by first | rfl | simp, rfl⟩
theorem cmp_any (a b : Int) (w : World) : Calls Tryz.prog 57 #[.int .i64 a, .int .i64 b] w fun e w' => e = .returned (.int .i64 (cmpI a b)) ∧ w' = w := by
  have HN := Lib.hid nan_any
  unfold cmpI
  by_cases h1 : a < b
  · rw [if_pos h1]
    go_enter Tryz.func57, Tryz.ntmps57
    go_wp2_with (go_at_call 82; refine (HN.out _ _).mono ?_; rintro e w1 ⟨rfl, rfl⟩)
    go_ret
    exact ⟨rfl, rfl⟩
  · rw [if_neg h1]
    by_cases h2 : b < a
    · rw [if_pos h2]
      go_enter Tryz.func57, Tryz.ntmps57
      go_wp2_with (go_at_call 82; refine (HN.out _ _).mono ?_; rintro e w1 ⟨rfl, rfl⟩)
      go_ret
      exact ⟨rfl, rfl⟩
    · rw [if_neg h2]
      go_enter Tryz.func57, Tryz.ntmps57
      go_wp2_with (go_at_call 82; refine (HN.out _ _).mono ?_; rintro e w1 ⟨rfl, rfl⟩)
      go_ret
      exact ⟨rfl, rfl⟩
/-- a number is in a list -/
def inL (l : List Int) (n : Int) : Bool := anyU (fun i => n == l.getD i 0) l.length
theorem index_any (l : List Int) (a : Option Addr) (cap : Nat) (n : Int) (w : World) (h : IntsAt w a l) (hl : l.length ≤ 1000) : Calls Tryz.prog 100 #[.slice a l.length cap, .int .i64 n] w fun e w' => ∃ r : Int, e = .returned (.int .i64 r) ∧ decide (0 ≤ r) = inL l n ∧ G w w' := by
  go_enter Tryz.func100, Tryz.ntmps100
  go_wp2_with fail
  go_loopw [8] (fun i wr => ∃ k : Nat, k ≤ l.length ∧ i = .int .i64 k ∧ Hid (∀ j, j < k → (n == l.getD j 0) = false) ∧ G w wr) (fun i _ => l.length - (intOf i).toNat)
  case atStart => exact ⟨0, Nat.zero_le _, rfl, fun j hj => by omega, G.rf _⟩
  case round =>
    obtain ⟨k, hk, rfl, hno, hG⟩ := hrel
    by_cases hlt : k < l.length
    · have hki : (k : Int) < l.length := by omega
      rcases h with rfl | ⟨g, off, rfl, hg, hcell⟩
      · simp at hlt
      have lg := Nat.lt_of_lt_of_le hg hG.size
      have q0 := ((bcellB hG).1 g _ hg).trans (hcell k hlt)
      obtain ⟨y, hy⟩ : ∃ y, y = l.getD k 0 := ⟨_, rfl⟩
      have HY := Lib.hid hy
      rw [← hy] at q0
      clear hy hcell
      cases hp : (n == y)
      · have HP := Lib.hid hp
        have hne : ¬ n = y := by simpa using hp
        go_wp2_with fail
        go_roundw
        case rel => exact ⟨k + 1, by omega, by go_num, fun j hj => by
          rcases Nat.lt_or_ge j k with h | h
          · exact hno.out j h
          · obtain rfl : j = k := by omega
            rw [← HY.out]; exact HP.out, hG⟩
        case measure => simp [intOf] <;> omega
      · have HP : Hid (inL l n = true) := anyU_yes hlt (by rw [← HY.out]; exact hp)
        have hne : n = y := by simpa using hp
        go_wp2_with fail
        go_ret
        exact ⟨k, rfl, by rw [HP.out]; simp, hG⟩
    · have hki : ¬ (k : Int) < l.length := by omega
      obtain rfl : k = l.length := by omega
      have HP : Hid (inL l n = false) := anyU_no hno.out
      go_wp2_with fail
      go_ret
      exact ⟨-1, rfl, by rw [HP.out]; rfl, hG⟩
theorem contains_any (l : List Int) (a : Option Addr) (cap : Nat) (n : Int) (w : World) (h : IntsAt w a l) (hl : l.length ≤ 1000) : Calls Tryz.prog 76 #[.slice a l.length cap, .int .i64 n] w fun e w' => e = .returned (.bool (inL l n)) ∧ G w w' := by
  have HI := Lib.hid (index_any l a cap n w h hl)
  clear h
  go_enter Tryz.func76, Tryz.ntmps76
  go_wp2_with (go_at_call 100; refine (HI.out).mono ?_; rintro e w1 ⟨r, rfl, hr, hG1⟩; have HR := Lib.hid hr; clear hr)
  go_ret
  exact ⟨by rw [← HR.out]; first | rfl | simp, hG1⟩
/-- what of an amount the i-th of some birds gets -/
def shareI (amount : Int) (birds : Nat) (i : Nat) : Int := amount / birds + if (i : Int) < amount % birds then 1 else 0
theorem share99 (amount : Int) (birds i : Nat) (A B : Nat) (W : World) (ha : 0 ≤ amount ∧ amount ≤ 1000000000000) (hb : 1 ≤ birds ∧ birds ≤ 1000) (hi : i ≤ 1000) (hA : Blk W A 3 #[.int .i64 amount]) (hB : Blk W B 3 #[.int .i64 (birds : Nat)]) :
    Calls Tryz.prog 99 #[.int .i64 (i : Nat), .pointer (some ⟨A, 0, none⟩), .pointer (some ⟨B, 0, none⟩)] W fun e w' => e = .returned (.int .i64 (shareI amount birds i)) ∧ G W w' := by
  have m0 := hA.cell 0
  have l0 := hA.lt
  have n0 := hB.cell 0
  have l1 := hB.lt
  have hd : amount.tdiv (birds : Int) = amount / birds := Int.tdiv_eq_ediv_of_nonneg ha.1
  have hm : amount.tmod (birds : Int) = amount % birds := Int.tmod_eq_emod_of_nonneg ha.1
  have hq : 0 ≤ amount / birds ∧ amount / (birds : Int) ≤ 1000000000000 := ⟨Int.ediv_nonneg ha.1 (by omega), Int.le_trans (Int.ediv_le_self _ ha.1) ha.2⟩
  have hbz : ((birds : Int) == 0) = false := by simp; omega
  have hbz2 : ¬ birds = 0 := by omega
  have hbz3 : ¬ (birds : Int) = 0 := by omega
  obtain ⟨q, hq0⟩ : ∃ q, q = amount / (birds : Int) := ⟨_, rfl⟩
  obtain ⟨m, hm0⟩ : ∃ m, m = amount % (birds : Int) := ⟨_, rfl⟩
  unfold shareI
  rw [← hq0] at hd hq ⊢
  rw [← hm0] at hm ⊢
  have x1 : IntKind.i64.wrap q = q := IntWalk.i64_in _ (by omega)
  have x2 : IntKind.i64.wrap (q + 1) = q + 1 := IntWalk.i64_in _ (by omega)
  have HZ : Hid (q + 0 = q) := Int.add_zero q
  clear hq0 hm0
  by_cases h1 : (i : Int) < m
  · rw [if_pos h1]
    go_enter Tryz.func99, Tryz.ntmps99
    go_wp2_with fail
    go_ret
    exact ⟨rfl, G.rf _⟩
  · rw [if_neg h1, HZ.out]
    go_enter Tryz.func99, Tryz.ntmps99
    go_wp2_with fail
    go_ret
    exact ⟨rfl, G.rf _⟩
/-- a fund as it lies -/
structure Fu where
  po : Po
  fa : Option Addr
  fc : Nat
  rs : List Rc
  pa : Option Addr
  pc : Nat
  ps : List Int
def Fu.v (f : Fu) : Array Value := #[.int .i64 f.po.stake, .int .i64 f.po.cut, .int .i64 f.po.kind, .slice f.po.ta f.po.table.length f.po.tc, .int .i64 f.po.quota, .bool f.po.first, .slice f.fa f.rs.length f.fc, .slice f.pa f.ps.length f.pc]
def totI (f : Fu) : Int := f.po.stake * f.rs.length
def kepI (f : Fu) : Int := totI f * f.po.cut / 1000
def lefI (f : Fu) : Int := totI f - kepI f
structure FuB (f : Fu) : Prop where
  stake : 0 ≤ f.po.stake ∧ f.po.stake ≤ 100000
  cut : 0 ≤ f.po.cut ∧ f.po.cut ≤ 1000
  many : f.rs.length ≤ 12
theorem FuB.tot {f : Fu} (h : FuB f) : 0 ≤ totI f ∧ totI f ≤ 1200000 := by
  unfold totI
  refine ⟨Int.mul_nonneg h.stake.1 (by omega), ?_⟩
  have h1 : f.po.stake * (f.rs.length : Int) ≤ 100000 * (f.rs.length : Int) := Int.mul_le_mul_of_nonneg_right h.stake.2 (by omega)
  have := h.many
  omega
theorem FuB.prod {f : Fu} (h : FuB f) : 0 ≤ totI f * f.po.cut ∧ totI f * f.po.cut ≤ totI f * 1000 :=
  ⟨Int.mul_nonneg h.tot.1 h.cut.1, Int.mul_le_mul_of_nonneg_left h.cut.2 h.tot.1⟩
theorem FuB.kep {f : Fu} (h : FuB f) : 0 ≤ kepI f ∧ kepI f ≤ totI f := by
  have := h.prod
  unfold kepI
  omega
theorem total_any (f : Fu) (w : World) (h : FuB f) : Calls Tryz.prog 47 #[.agg f.v] w fun e w' => e = .returned (.int .i64 (totI f)) ∧ G w w' := by
  have hb := h.tot
  unfold totI at *
  clear h
  obtain ⟨⟨ystake, ycut, ykind, yta, ytc, ytable, yquota, yfirst⟩, fa, fc, rs, pa, pc, ps⟩ := f
  unfold Fu.v
  dsimp only at *
  have x1 : IntKind.i64.wrap (ystake * (rs.length : Int)) = ystake * (rs.length : Int) := IntWalk.i64_in _ (by omega)
  have g0 : G w (w.alloc (.cells #[.int .i64 ystake, .int .i64 ycut, .int .i64 ykind, .slice yta ytable.length ytc, .int .i64 yquota, .bool yfirst, .slice fa rs.length fc, .slice pa ps.length pc] 85)) := (G.rf _).a _
  clear hb
  go_enter Tryz.func47, Tryz.ntmps47
  go_wp2_with fail
  go_ret
  exact ⟨rfl, g0⟩
set_option maxRecDepth 100000 in
set_option maxHeartbeats 4000000 in
theorem kept_any (f : Fu) (w : World) (h : FuB f) : Calls Tryz.prog 48 #[.agg f.v] w fun e w' => e = .returned (.int .i64 (kepI f)) ∧ G w w' := by
  have hb := h.tot
  have hp := h.prod
  have HT := Lib.hid (fun (W : World) => total_any f W h)
  unfold kepI
  generalize totI f = T at *
  clear h
  obtain ⟨⟨ystake, ycut, ykind, yta, ytc, ytable, yquota, yfirst⟩, fa, fc, rs, pa, pc, ps⟩ := f
  unfold Fu.v at *
  dsimp only at *
  have x1 : IntKind.i64.wrap (T * ycut) = T * ycut := IntWalk.i64_in _ (by omega)
  have x2 : (T * ycut).tdiv 1000 = T * ycut / 1000 := Int.tdiv_eq_ediv_of_nonneg hp.1
  have x3 : IntKind.i64.wrap (T * ycut / 1000) = T * ycut / 1000 := IntWalk.i64_in _ (by omega)
  have g0 : G w (w.alloc (.cells #[.int .i64 ystake, .int .i64 ycut, .int .i64 ykind, .slice yta ytable.length ytc, .int .i64 yquota, .bool yfirst, .slice fa rs.length fc, .slice pa ps.length pc] 85)) := (G.rf _).a _
  have b0 : Blk (w.alloc (.cells #[.int .i64 ystake, .int .i64 ycut, .int .i64 ykind, .slice yta ytable.length ytc, .int .i64 yquota, .bool yfirst, .slice fa rs.length fc, .slice pa ps.length pc] 85)) w.heap.size 85 #[.int .i64 ystake, .int .i64 ycut, .int .i64 ykind, .slice yta ytable.length ytc, .int .i64 yquota, .bool yfirst, .slice fa rs.length fc, .slice pa ps.length pc] := Blk.new _ _ _
  clear hp hb
  go_enter Tryz.func48, Tryz.ntmps48
  go_upto_region 1 with fail
  change Code.wp _ _ _ _ (w.alloc (.cells #[.int .i64 ystake, .int .i64 ycut, .int .i64 ykind, .slice yta ytable.length ytc, .int .i64 yquota, .bool yfirst, .slice fa rs.length fc, .slice pa ps.length pc] 85))
  generalize w.alloc (.cells #[.int .i64 ystake, .int .i64 ycut, .int .i64 ykind, .slice yta ytable.length ytc, .int .i64 yquota, .bool yfirst, .slice fa rs.length fc, .slice pa ps.length pc] 85) = w1 at *
  have hSk : ∀ W', G w1 W' → Blk W' w.heap.size 85 #[.int .i64 ystake, .int .i64 ycut, .int .i64 ykind, .slice yta ytable.length ytc, .int .i64 yquota, .bool yfirst, .slice fa rs.length fc, .slice pa ps.length pc] := fun W' hW => b0.keep hW
  refine wp_region_Y (S := fun W' => Blk W' w.heap.size 85 #[.int .i64 ystake, .int .i64 ycut, .int .i64 ykind, .slice yta ytable.length ytc, .int .i64 yquota, .bool yfirst, .slice fa rs.length fc, .slice pa ps.length pc]) 7 8 rfl (by kernel_rfl) (hSk _ (G.rf _).d) (fun hS => ?_)
  have ga := (G.rf w1).d
  refine wpAnyY_take (i := 0) (v := ?_) rfl (by kernel_rfl) (by kernel_rfl) (by kernel_rfl) (by kernel_rfl) (fun _ _ _ h => h) (Or.inl ⟨by kernel_rfl, ?_⟩) hS ?_
  rotate_left
  · intro w' hSw; have m0 := hSw.cell 0; have m1 := hSw.cell 1; have m2 := hSw.cell 2; have m3 := hSw.cell 3; have m4 := hSw.cell 4; have m5 := hSw.cell 5; have m6 := hSw.cell 6; have m7 := hSw.cell 7; go_simp; with_reducible rfl
  try simp only [Act.put, List.getElem_toArray, List.getElem_cons_zero, List.getElem_cons_succ, List.setIfInBounds_toArray, List.set_cons_zero, List.set_cons_succ]
  refine wpAnyY_take (i := 2) (v := ?_) rfl (by kernel_rfl) (by kernel_rfl) (by kernel_rfl) (by kernel_rfl) (fun _ _ _ h => h) (Or.inl ⟨by kernel_rfl, ?_⟩) hS ?_
  rotate_left
  · intro w' hSw; go_simp; with_reducible rfl
  try simp only [Act.put, List.getElem_toArray, List.getElem_cons_zero, List.getElem_cons_succ, List.setIfInBounds_toArray, List.set_cons_zero, List.set_cons_succ]
  refine wpAnyY_take (i := 3) (v := ?_) rfl (by kernel_rfl) (by kernel_rfl) (by kernel_rfl) (by kernel_rfl) (fun _ _ _ h => h) (Or.inl ⟨by kernel_rfl, ?_⟩) hS ?_
  rotate_left
  · intro w' hSw; go_simp; with_reducible rfl
  try simp only [Act.put, List.getElem_toArray, List.getElem_cons_zero, List.getElem_cons_succ, List.setIfInBounds_toArray, List.set_cons_zero, List.set_cons_succ]
  refine wpAnyY_take (i := 4) (v := ?_) rfl (by kernel_rfl) (by kernel_rfl) (by kernel_rfl) (by kernel_rfl) (fun _ _ _ h => h) (Or.inl ⟨by kernel_rfl, ?_⟩) hS ?_
  rotate_left
  · intro w' hSw; have m1 := hSw.cell 1; have l1 := hSw.lt; go_simp; with_reducible rfl
  try simp only [Act.put, List.getElem_toArray, List.getElem_cons_zero, List.getElem_cons_succ, List.setIfInBounds_toArray, List.set_cons_zero, List.set_cons_succ]
  refine wpAnyY_oneSW (i := 1) (by kernel_rfl) rfl (by kernel_rfl) (fun K1 hK1 => ?_)
  go_simp
  refine (HT.out _).mono ?_
  rintro e w2 ⟨rfl, hG2⟩
  replace ga := ga.t hG2
  refine hK1.out _ _ (hSk _ ga) (fun hS => ?_)
  clear hK1
  try simp only [Act.put, List.getElem_toArray, List.getElem_cons_zero, List.getElem_cons_succ, List.setIfInBounds_toArray, List.set_cons_zero, List.set_cons_succ]
  refine wpAnyY_take (i := 5) (v := ?_) rfl (by kernel_rfl) (by kernel_rfl) (by kernel_rfl) (by kernel_rfl) (fun _ _ _ h => h) (Or.inl ⟨by kernel_rfl, ?_⟩) hS ?_
  rotate_left
  · intro w' hSw; go_simp; with_reducible rfl
  try simp only [Act.put, List.getElem_toArray, List.getElem_cons_zero, List.getElem_cons_succ, List.setIfInBounds_toArray, List.set_cons_zero, List.set_cons_succ]
  refine wpAnyY_take (i := 6) (v := ?_) rfl (by kernel_rfl) (by kernel_rfl) (by kernel_rfl) (by kernel_rfl) (fun _ _ _ h => h) (Or.inl ⟨by kernel_rfl, ?_⟩) hS ?_
  rotate_left
  · intro w' hSw; go_simp; with_reducible rfl
  try simp only [Act.put, List.getElem_toArray, List.getElem_cons_zero, List.getElem_cons_succ, List.setIfInBounds_toArray, List.set_cons_zero, List.set_cons_succ]
  refine wpAnyY_oneW (i := 7) (by kernel_rfl) rfl (by kernel_rfl) (by kernel_rfl) (fun K7 hK7 => ?_)
  go_simp
  refine hK7.out _ _ ?_
  clear hK7
  try simp only [Act.put, List.getElem_toArray, List.getElem_cons_zero, List.getElem_cons_succ, List.setIfInBounds_toArray, List.set_cons_zero, List.set_cons_succ]
  refine wpAnyY_done (by kernel_rfl) ?_ _
  go_wp2_with fail
  go_ret
  exact ⟨rfl, g0.t ga⟩
set_option maxRecDepth 100000 in
set_option maxHeartbeats 4000000 in
theorem left_any (f : Fu) (w : World) (h : FuB f) : Calls Tryz.prog 49 #[.agg f.v] w fun e w' => e = .returned (.int .i64 (lefI f)) ∧ G w w' := by
  have hb := h.tot
  have hk := h.kep
  have HT := Lib.hid (fun (W : World) => total_any f W h)
  have HK := Lib.hid (fun (W : World) => kept_any f W h)
  unfold lefI
  generalize totI f = T at *
  generalize kepI f = K0 at *
  clear h
  obtain ⟨⟨ystake, ycut, ykind, yta, ytc, ytable, yquota, yfirst⟩, fa, fc, rs, pa, pc, ps⟩ := f
  unfold Fu.v at *
  dsimp only at *
  have x1 : IntKind.i64.wrap (T - K0) = T - K0 := IntWalk.i64_in _ (by omega)
  have g0 : G w (w.alloc (.cells #[.int .i64 ystake, .int .i64 ycut, .int .i64 ykind, .slice yta ytable.length ytc, .int .i64 yquota, .bool yfirst, .slice fa rs.length fc, .slice pa ps.length pc] 85)) := (G.rf _).a _
  have b0 : Blk (w.alloc (.cells #[.int .i64 ystake, .int .i64 ycut, .int .i64 ykind, .slice yta ytable.length ytc, .int .i64 yquota, .bool yfirst, .slice fa rs.length fc, .slice pa ps.length pc] 85)) w.heap.size 85 #[.int .i64 ystake, .int .i64 ycut, .int .i64 ykind, .slice yta ytable.length ytc, .int .i64 yquota, .bool yfirst, .slice fa rs.length fc, .slice pa ps.length pc] := Blk.new _ _ _
  clear hk hb
  go_enter Tryz.func49, Tryz.ntmps49
  go_upto_region 1 with fail
  change Code.wp _ _ _ _ (w.alloc (.cells #[.int .i64 ystake, .int .i64 ycut, .int .i64 ykind, .slice yta ytable.length ytc, .int .i64 yquota, .bool yfirst, .slice fa rs.length fc, .slice pa ps.length pc] 85))
  generalize w.alloc (.cells #[.int .i64 ystake, .int .i64 ycut, .int .i64 ykind, .slice yta ytable.length ytc, .int .i64 yquota, .bool yfirst, .slice fa rs.length fc, .slice pa ps.length pc] 85) = w1 at *
  have hSk : ∀ W', G w1 W' → Blk W' w.heap.size 85 #[.int .i64 ystake, .int .i64 ycut, .int .i64 ykind, .slice yta ytable.length ytc, .int .i64 yquota, .bool yfirst, .slice fa rs.length fc, .slice pa ps.length pc] := fun W' hW => b0.keep hW
  refine wp_region_Y (S := fun W' => Blk W' w.heap.size 85 #[.int .i64 ystake, .int .i64 ycut, .int .i64 ykind, .slice yta ytable.length ytc, .int .i64 yquota, .bool yfirst, .slice fa rs.length fc, .slice pa ps.length pc]) 5 6 rfl (by kernel_rfl) (hSk _ (G.rf _).d) (fun hS => ?_)
  have ga := (G.rf w1).d
  refine wpAnyY_take (i := 0) (v := ?_) rfl (by kernel_rfl) (by kernel_rfl) (by kernel_rfl) (by kernel_rfl) (fun _ _ _ h => h) (Or.inl ⟨by kernel_rfl, ?_⟩) hS ?_
  rotate_left
  · intro w' hSw; have m0 := hSw.cell 0; have m1 := hSw.cell 1; have m2 := hSw.cell 2; have m3 := hSw.cell 3; have m4 := hSw.cell 4; have m5 := hSw.cell 5; have m6 := hSw.cell 6; have m7 := hSw.cell 7; go_simp; with_reducible rfl
  try simp only [Act.put, List.getElem_toArray, List.getElem_cons_zero, List.getElem_cons_succ, List.setIfInBounds_toArray, List.set_cons_zero, List.set_cons_succ]
  refine wpAnyY_take (i := 2) (v := ?_) rfl (by kernel_rfl) (by kernel_rfl) (by kernel_rfl) (by kernel_rfl) (fun _ _ _ h => h) (Or.inl ⟨by kernel_rfl, ?_⟩) hS ?_
  rotate_left
  · intro w' hSw; have m0 := hSw.cell 0; have m1 := hSw.cell 1; have m2 := hSw.cell 2; have m3 := hSw.cell 3; have m4 := hSw.cell 4; have m5 := hSw.cell 5; have m6 := hSw.cell 6; have m7 := hSw.cell 7; go_simp; with_reducible rfl
  try simp only [Act.put, List.getElem_toArray, List.getElem_cons_zero, List.getElem_cons_succ, List.setIfInBounds_toArray, List.set_cons_zero, List.set_cons_succ]
  refine wpAnyY_oneSW (i := 1) (by kernel_rfl) rfl (by kernel_rfl) (fun K1 hK1 => ?_)
  go_simp
  refine (HT.out _).mono ?_
  rintro e w2 ⟨rfl, hG2⟩
  replace ga := ga.t hG2
  refine hK1.out _ _ (hSk _ ga) (fun hS => ?_)
  clear hK1
  try simp only [Act.put, List.getElem_toArray, List.getElem_cons_zero, List.getElem_cons_succ, List.setIfInBounds_toArray, List.set_cons_zero, List.set_cons_succ]
  refine wpAnyY_oneSW (i := 3) (by kernel_rfl) rfl (by kernel_rfl) (fun K3 hK3 => ?_)
  go_simp
  refine (HK.out _).mono ?_
  rintro e w3 ⟨rfl, hG3⟩
  replace ga := ga.t hG3
  refine hK3.out _ _ (hSk _ ga) (fun hS => ?_)
  clear hK3
  try simp only [Act.put, List.getElem_toArray, List.getElem_cons_zero, List.getElem_cons_succ, List.setIfInBounds_toArray, List.set_cons_zero, List.set_cons_succ]
  refine wpAnyY_take (i := 4) (v := ?_) rfl (by kernel_rfl) (by kernel_rfl) (by kernel_rfl) (by kernel_rfl) (fun _ _ _ h => h) (Or.inl ⟨by kernel_rfl, ?_⟩) hS ?_
  rotate_left
  · intro w' hSw; go_simp; with_reducible rfl
  try simp only [Act.put, List.getElem_toArray, List.getElem_cons_zero, List.getElem_cons_succ, List.setIfInBounds_toArray, List.set_cons_zero, List.set_cons_succ]
  refine wpAnyY_oneW (i := 5) (by kernel_rfl) rfl (by kernel_rfl) (by kernel_rfl) (fun K5 hK5 => ?_)
  go_simp
  refine hK5.out _ _ ?_
  clear hK5
  try simp only [Act.put, List.getElem_toArray, List.getElem_cons_zero, List.getElem_cons_succ, List.setIfInBounds_toArray, List.set_cons_zero, List.set_cons_succ]
  refine wpAnyY_done (by kernel_rfl) ?_ _
  go_wp2_with fail
  go_ret
  exact ⟨rfl, g0.t ga⟩
end Go.Proofs.YtnkmcoljijmgpaaGreat

set_option linter.unusedSimpArgs false
set_option linter.unusedVariables false
namespace Go.Proofs.YtnkmcoljijmgpaaGreat
open Go.RowKit Go.Shelf
attribute [local go_sem] Oper.semAt_some
/-- numbers as cells -/
def iv (l : List Int) : List Value := l.map (Value.int .i64)
theorem iv_snoc (l : List Int) (x : Int) : iv (l ++ [x]) = iv l ++ [.int .i64 x] := by simp [iv]
theorem iv_len (l : List Int) : (iv l).length = l.length := by simp [iv]
theorem iv_get (l : List Int) {i : Nat} (h : i < l.length) : (iv l)[i]? = some (.int .i64 (l.getD i 0)) := by
  simp [iv, List.getD_eq_getElem?_getD, h]
theorem own_ints {W : World} {B : Nat} {v : Value} {l : List Int} (h : W.ownsRow B 3 1 v l.length (iv l)) : ∃ a c, v = .slice a l.length c ∧ IntsAt W a l := by
  by_cases h0 : 0 < l.length
  · obtain ⟨g, cap, cur, rfl, hb, hg, ht⟩ := own_some h h0
    exact ⟨_, _, rfl, .inr ⟨g, 0, rfl, hg, fun k hk => by rw [Nat.zero_add]; exact take_cell hb ht (by omega) (iv_get l hk)⟩⟩
  · obtain ⟨a, c, rfl⟩ := own_slice h
    exact ⟨_, _, rfl, .inl (List.length_eq_zero_iff.1 (by omega))⟩
/-- a row of numbers of one's own -/
def IvPost (w : World) (l : List Int) (e : Ending) (w' : World) : Prop := ∃ v, e = .returned v ∧ w'.ownsRow w.heap.size 3 1 v l.length (iv l) ∧ G w w'
def nPl (f : Fu) : Int := (f.rs.length + f.po.quota - 1) / f.po.quota
def placesL (f : Fu) : List Int := if f.po.kind = 1 then f.po.table.map (fun n => lefI f * n / 1000) else if f.po.kind = 2 then List.replicate (nPl f).toNat (lefI f / nPl f) else if f.po.kind = 3 then [lefI f] else []
theorem take_snoc {l : List Int} {k : Nat} (h : k < l.length) (g : Int → Int) : (l.take (k + 1)).map g = (l.take k).map g ++ [g (l.getD k 0)] := by
  rw [List.take_add_one, List.map_append]
  simp [List.getElem?_eq_getElem h, List.getD_eq_getElem?_getD]
theorem rep_snoc (k : Nat) (x : Int) : List.replicate (k + 1) x = List.replicate k x ++ [x] := by
  rw [List.replicate_succ']
set_option maxRecDepth 100000 in
set_option maxHeartbeats 8000000 in
theorem places_any (f : Fu) (w : World) (h : FuB f) (hp : poolB f.po = true) (ht : IntsAt w f.po.ta f.po.table) : Calls Tryz.prog 59 #[.agg f.v] w (IvPost w (placesL f)) := by
  have HL := Lib.hid (fun (W : World) => left_any f W h)
  have hlb : 0 ≤ lefI f ∧ lefI f ≤ 1200000 := by
    have a := h.tot
    have b := h.kep
    unfold lefI
    omega
  have hmany := h.many
  have HPP : Hid (∀ w' v, w'.ownsRow w.heap.size 3 1 v (placesL f).length (iv (placesL f)) → G w w' → IvPost w (placesL f) (.returned v) w') := fun w' v a b => ⟨v, rfl, a, b⟩
  generalize IvPost w (placesL f) = PP at *
  unfold poolB at hp
  simp only [Bool.and_eq_true] at hp
  obtain ⟨_, _, hk⟩ := hp
  unfold kindB at hk
  unfold placesL nPl at HPP
  generalize lefI f = LV at *
  clear h
  obtain ⟨⟨ystake, ycut, ykind, yta, ytc, ytable, yquota, yfirst⟩, fa, fc, rs, pa, pc, ps⟩ := f
  unfold Fu.v at *
  dsimp only at *
  have g0 : G w (w.alloc (.cells #[.int .i64 ystake, .int .i64 ycut, .int .i64 ykind, .slice yta ytable.length ytc, .int .i64 yquota, .bool yfirst, .slice fa rs.length fc, .slice pa ps.length pc] 85)) := (G.rf _).a _
  have b0 : Blk (w.alloc (.cells #[.int .i64 ystake, .int .i64 ycut, .int .i64 ykind, .slice yta ytable.length ytc, .int .i64 yquota, .bool yfirst, .slice fa rs.length fc, .slice pa ps.length pc] 85)) w.heap.size 85 #[.int .i64 ystake, .int .i64 ycut, .int .i64 ykind, .slice yta ytable.length ytc, .int .i64 yquota, .bool yfirst, .slice fa rs.length fc, .slice pa ps.length pc] := Blk.new _ _ _
  obtain ⟨i0, hi0, hz0, hz1, hz2⟩ := info_parts info3
  by_cases k1 : ykind = 1
  · subst k1
    rw [if_pos rfl] at hk HPP
    simp only [Bool.and_eq_true, decide_eq_true_eq] at hk
    have htb := hk.1
    unfold tableB at htb
    simp only [Bool.and_eq_true, decide_eq_true_eq] at htb
    obtain ⟨ht8, htc, _⟩ := htb
    unfold isInB at ht8
    simp only [Bool.and_eq_true, decide_eq_true_eq] at ht8
    have HTC : Hid (∀ i, i < ytable.length → 0 ≤ ytable.getD i 0 ∧ ytable.getD i 0 ≤ 1000) := fun i hi => by
      have := allU_iff.1 htc i hi
      unfold isInB at this
      simp only [Bool.and_eq_true, decide_eq_true_eq] at this
      exact this
    clear hk htc
    go_enter Tryz.func59, Tryz.ntmps59
    go_upto_region 3 with (go_at_call 49; refine (HL.out _).mono ?_; rintro e w1 ⟨rfl, hG1⟩)
    replace b0 := b0.keep hG1
    replace g0 := g0.t hG1
    clear hG1 HL
    have m2 := b0.cell 2
    have m3 := b0.cell 3
    have l0 := b0.lt
    go_wp2_with fail
    clear m2 m3 l0
    go_loopw [4, 19] (fun v i wr => ∃ k : Nat, k ≤ ytable.length ∧ i = .int .i64 k ∧ wr.ownsRow w1.heap.size 3 1 v k (iv ((ytable.take k).map (fun n => LV * n / 1000))) ∧ G w1 wr) (fun _ i _ => ytable.length - (intOf i).toNat)
    case atStart => exact ⟨0, Nat.zero_le _, rfl, World.ownsRow_nil _ _ _ _, G.rf _⟩
    case round =>
      obtain ⟨k, hk, rfl, ho, hG⟩ := hrel
      obtain ⟨wo, rfl⟩ : ∃ wo, wo = wr := ⟨_, rfl⟩
      have HO := Lib.hid ho
      clear ho
      by_cases hlt : k < ytable.length
      · have hki : (k : Int) < ytable.length := by omega
        rcases ht with rfl | ⟨g, off, rfl, hg, hcell⟩
        · simp at hlt
        have lg := Nat.lt_of_lt_of_le hg (g0.t hG).size
        have q0 := ((bcellB (g0.t hG)).1 g _ hg).trans (hcell k hlt)
        have hy01 := HTC.out k hlt
        have HSN := Lib.hid (take_snoc hlt (fun n => LV * n / 1000))
        obtain ⟨y, hy⟩ : ∃ y, y = ytable.getD k 0 := ⟨_, rfl⟩
        rw [← hy] at q0 hy01 HSN
        clear hy hcell
        have hpr : 0 ≤ LV * y ∧ LV * y ≤ LV * 1000 := ⟨Int.mul_nonneg hlb.1 hy01.1, Int.mul_le_mul_of_nonneg_left hy01.2 hlb.1⟩
        have x1 : IntKind.i64.wrap (LV * y) = LV * y := IntWalk.i64_in _ (by omega)
        have x2 : (LV * y).tdiv 1000 = LV * y / 1000 := Int.tdiv_eq_ediv_of_nonneg hpr.1
        have x3 : IntKind.i64.wrap (LV * y / 1000) = LV * y / 1000 := IntWalk.i64_in _ (by omega)
        obtain ⟨T, hT⟩ : ∃ T, T = (ytable.take k).map (fun n => LV * n / 1000) := ⟨_, rfl⟩
        have hTl : T.length = k := by rw [hT, List.length_map, List.length_take]; omega
        rw [← hT] at HO HSN
        clear hT hpr
        obtain rfl := hTl.symm
        go_wp2_with (at_builtin; refine wpList_append_own _ rfl _ _ 24 rfl w1.heap.size 3 i0 (.int .i64 0) 1 8 Tryz.underlying24 hi0 hz0 hz1 hz2 rfl (by decide) _ T.length (iv T) rfl ?hown ⟨_, 0, none⟩ 1 1 [.int .i64 (LV * y / 1000)] rfl rfl (cell_one_new _ _ _) (by simp [Value.oneCell']) (by unfold maxLen; omega) (by omega) ?hbase ?hrest)
        case hown => exact own_G HO.out ((G.rf _).a _)
        case hbase => have := hG.size; omega
        case hrest =>
          intro v9 w9 hown9 hg9 _
          have gz : G w1 w9 := grow_own (hG.a _) (own_G HO.out ((G.rf _).a _)) (Nat.le_refl _) hg9
          have HN := Lib.hid hown9
          clear hown9 hg9
          go_wp2
          go_roundw
          case rel => exact ⟨T.length + 1, by omega, by go_num, by rw [HSN.out, iv_snoc]; exact HN.out, gz⟩
          case measure => simp [intOf] <;> omega
      · obtain rfl : k = ytable.length := by omega
        have hki : ¬ ((ytable.length : Nat) : Int) < ytable.length := by omega
        rw [List.take_length] at HO
        have hlen : (ytable.map (fun n => LV * n / 1000)).length = ytable.length := List.length_map _
        have HF := Lib.hid (fun v (ho : wo.ownsRow w.heap.size 3 1 v ytable.length (iv (ytable.map (fun n => LV * n / 1000)))) => HPP.out wo v (by rw [hlen]; exact ho) (g0.t hG))
        clear HPP
        go_wp2_with fail
        exact HF.out _ (own_weaken HO.out g0.size)
  rw [if_neg k1] at hk HPP
  have e1 : (ykind == 1) = false := by simpa using k1
  by_cases k2 : ykind = 2
  · subst k2
    rw [if_pos rfl] at hk HPP
    simp only [Bool.and_eq_true, decide_eq_true_eq] at hk
    have hq := hk.2
    clear hk
    unfold isInB at hq
    simp only [Bool.and_eq_true, decide_eq_true_eq] at hq
    obtain ⟨Q, hQ⟩ : ∃ Q : Nat, yquota = Q := ⟨yquota.toNat, by omega⟩
    subst hQ
    obtain ⟨M, hM⟩ : ∃ M : Nat, M = (rs.length + Q - 1) / Q := ⟨_, rfl⟩
    have hMi : ((rs.length : Int) + Q - 1) / Q = (M : Nat) := by
      rw [hM]
      rw [show (rs.length : Int) + Q - 1 = ((rs.length + Q - 1 : Nat) : Int) by omega]
      exact (Int.natCast_ediv _ _).symm
    have hMb : M ≤ 1000 := by
      rw [hM]
      exact Nat.le_trans (Nat.div_le_self _ _) (by omega)
    rw [hMi] at HPP
    have y1 : IntKind.i64.wrap ((rs.length : Int) + Q) = (rs.length : Int) + Q := IntWalk.i64_in _ (by omega)
    have y2 : IntKind.i64.wrap ((rs.length : Int) + Q - 1) = (rs.length : Int) + Q - 1 := IntWalk.i64_in _ (by omega)
    have y3 : ((rs.length : Int) + Q - 1).tdiv Q = (M : Nat) := by rw [Int.tdiv_eq_ediv_of_nonneg (by omega)]; exact hMi
    have y4 : IntKind.i64.wrap ((M : Nat) : Int) = (M : Nat) := IntWalk.i64_in _ (by omega)
    have qz : ((Q : Int) == 0) = false := by simp; omega
    have qz2 : ¬ Q = 0 := by omega
    clear hMi hM e1
    go_enter Tryz.func59, Tryz.ntmps59
    go_upto_region 3 with (go_at_call 49; refine (HL.out _).mono ?_; rintro e w1 ⟨rfl, hG1⟩)
    replace b0 := b0.keep hG1
    replace g0 := g0.t hG1
    clear hG1 HL
    have m2 := b0.cell 2
    have m4 := b0.cell 4
    have m6 := b0.cell 6
    have l0 := b0.lt
    go_wp2_with fail
    clear m2 m4 m6 l0 y1 y2 y3 y4
    go_loopw [4, 46] (fun v i wr => ∃ k : Nat, k ≤ M ∧ i = .int .i64 k ∧ wr.ownsRow w1.heap.size 3 1 v k (iv (List.replicate k (LV / (M : Nat)))) ∧ G w1 wr) (fun _ i _ => M - (intOf i).toNat)
    case atStart => exact ⟨0, Nat.zero_le _, rfl, World.ownsRow_nil _ _ _ _, G.rf _⟩
    case round =>
      obtain ⟨k, hk, rfl, ho, hG⟩ := hrel
      obtain ⟨wo, rfl⟩ : ∃ wo, wo = wr := ⟨_, rfl⟩
      have HO := Lib.hid ho
      clear ho
      by_cases hlt : k < M
      · have hki : (k : Int) < M := by omega
        have mz : ((M : Int) == 0) = false := by simp; omega
        have mz2 : ¬ M = 0 := by omega
        have x1 : LV.tdiv (M : Nat) = LV / (M : Nat) := Int.tdiv_eq_ediv_of_nonneg hlb.1
        have hb2 : 0 ≤ LV / (M : Nat) ∧ LV / ((M : Nat) : Int) ≤ LV := ⟨Int.ediv_nonneg hlb.1 (by omega), Int.ediv_le_self _ hlb.1⟩
        have x2 : IntKind.i64.wrap (LV / (M : Nat)) = LV / (M : Nat) := IntWalk.i64_in _ (by omega)
        have HSN := Lib.hid (rep_snoc k (LV / (M : Nat)))
        obtain ⟨z, hz⟩ : ∃ z, z = LV / ((M : Nat) : Int) := ⟨_, rfl⟩
        have HZ := Lib.hid hz
        rw [← hz] at x1 x2 HSN HO
        clear hb2 hz
        obtain ⟨T, hT⟩ : ∃ T, T = List.replicate k z := ⟨_, rfl⟩
        have hTl : T.length = k := by rw [hT, List.length_replicate]
        rw [← hT] at HO HSN
        clear hT
        obtain rfl := hTl.symm
        go_wp2_with (at_builtin; refine wpList_append_own _ rfl _ _ 24 rfl w1.heap.size 3 i0 (.int .i64 0) 1 8 Tryz.underlying24 hi0 hz0 hz1 hz2 rfl (by decide) _ T.length (iv T) rfl ?hown ⟨_, 0, none⟩ 1 1 [.int .i64 z] rfl rfl (cell_one_new _ _ _) (by simp [Value.oneCell']) (by unfold maxLen; omega) (by omega) ?hbase ?hrest)
        case hown => exact own_G HO.out ((G.rf _).a _)
        case hbase => have := hG.size; omega
        case hrest =>
          intro v9 w9 hown9 hg9 _
          have gz : G w1 w9 := grow_own (hG.a _) (own_G HO.out ((G.rf _).a _)) (Nat.le_refl _) hg9
          have HN := Lib.hid hown9
          clear hown9 hg9
          go_wp2
          go_roundw
          case rel => exact ⟨T.length + 1, by omega, by go_num, by rw [← HZ.out, HSN.out, iv_snoc]; exact HN.out, gz⟩
          case measure => simp [intOf] <;> omega
      · obtain rfl : k = M := by omega
        have hki : ¬ ((k : Nat) : Int) < k := by omega
        have hlen : (List.replicate k (LV / ((k : Nat) : Int))).length = k := List.length_replicate
        have HF := Lib.hid (fun v (ho : wo.ownsRow w.heap.size 3 1 v k (iv (List.replicate k (LV / ((k : Nat) : Int))))) => HPP.out wo v (by rw [Int.toNat_natCast, hlen]; exact ho) (g0.t hG))
        clear HPP
        go_wp2_with fail
        exact HF.out _ (own_weaken HO.out g0.size)
  rw [if_neg k2] at hk HPP
  have e2 : (ykind == 2) = false := by simpa using k2
  by_cases k3 : ykind = 3
  · subst k3
    rw [if_pos rfl] at HPP
    clear hk
    go_enter Tryz.func59, Tryz.ntmps59
    go_upto_region 3 with (go_at_call 49; refine (HL.out _).mono ?_; rintro e w1 ⟨rfl, hG1⟩)
    replace b0 := b0.keep hG1
    replace g0 := g0.t hG1
    clear hG1 HL
    have m2 := b0.cell 2
    have l0 := b0.lt
    have HO : Hid (w1.ownsRow w1.heap.size 3 1 (.slice none 0 0) 0 (iv [])) := World.ownsRow_nil _ _ _ _
    go_wp2_with (at_builtin; refine wpList_append_own _ rfl _ _ 24 rfl w1.heap.size 3 i0 (.int .i64 0) 1 8 Tryz.underlying24 hi0 hz0 hz1 hz2 rfl (by decide) _ 0 (iv ([] : List Int)) rfl ?hown ⟨_, 0, none⟩ 1 1 [.int .i64 LV] rfl rfl (cell_one_new _ _ _) (by simp [Value.oneCell']) (by unfold maxLen; omega) (by omega) ?hbase ?hrest)
    case hown => exact own_G HO.out ((G.rf _).a _)
    case hbase => first | omega | exact ((G.rf _).a _).size | simp
    case hrest =>
      intro v9 w9 hown9 hg9 _
      have gz : G w1 w9 := grow_own ((G.rf _).a _) (own_G HO.out ((G.rf _).a _)) (Nat.le_refl _) hg9
      have HF := Lib.hid (HPP.out w9 v9 (own_weaken hown9 g0.size) (g0.t gz))
      clear hown9 hg9 HPP
      go_wp2
      exact HF.out
  rw [if_neg k3] at hk
  cases hk
end Go.Proofs.YtnkmcoljijmgpaaGreat

set_option linter.unusedSimpArgs false
set_option linter.unusedVariables false
namespace Go.Proofs.YtnkmcoljijmgpaaGreat
open Go.RowKit Go.Shelf Go.Sort
attribute [local go_sem] Oper.semAt_some
/-- shares: the function that tells what each gets -/
theorem shares_any (amount birds : Int) (w : World) : Calls Tryz.prog 74 #[.int .i64 amount, .int .i64 birds] w fun e w' =>
    e = .returned (.func (.func 99) #[] #[.pointer (some ⟨w.heap.size, 0, none⟩), .pointer (some ⟨w.heap.size + 1, 0, none⟩)]) ∧ Blk w' w.heap.size 3 #[.int .i64 amount] ∧ Blk w' (w.heap.size + 1) 3 #[.int .i64 birds] ∧ G w w' := by
  have g0 : G w (w.alloc (.cells #[.int .i64 amount] 3)) := (G.rf _).a _
  have b0 : Blk (w.alloc (.cells #[.int .i64 amount] 3)) w.heap.size 3 #[.int .i64 amount] := Blk.new _ _ _
  have b1 : Blk ((w.alloc (.cells #[.int .i64 amount] 3)).alloc (.cells #[.int .i64 birds] 3)) (w.heap.size + 1) 3 #[.int .i64 birds] := by
    have := Blk.new (w.alloc (.cells #[.int .i64 amount] 3)) 3 #[.int .i64 birds]
    have e : (w.alloc (.cells #[.int .i64 amount] 3)).heap.size = w.heap.size + 1 := Array.size_push ..
    rw [e] at this
    exact this
  go_enter Tryz.func74, Tryz.ntmps74
  go_wp2_with fail
  go_ret
  exact ⟨by simp [World.alloc], b0.keep ((G.rf _).a _), b1, g0.a _⟩
/-- the code's order of racers: by ring -/
def birdC (x y : Rc) : Int := cmpI x.bird y.bird
set_option maxHeartbeats 1000000 in
theorem closure78 (x y : Rc) (W : World) : Calls Tryz.prog 78 #[.agg x.v, .agg y.v] W fun e w' => e = .returned (.int .i64 (birdC x y)) ∧ ∃ q os', w' = grow (W.drewN q) os' := by
  have hcon := fun W' => cmp_any x.bird y.bird W'
  unfold birdC
  generalize cmpI x.bird y.bird = r at hcon ⊢
  obtain ⟨xb, xo, xr, xd, xpa, xpc, xp⟩ := x
  obtain ⟨yb, yo, yr, yd, ypa, ypc, yp⟩ := y
  unfold Rc.v
  dsimp only at *
  go_enter Tryz.func78, Tryz.ntmps78
  go_wp2_with (go_at_call 57; refine (hcon _).mono ?_; rintro e w' ⟨rfl, rfl⟩)
  go_ret
  exact ⟨rfl, 0, _, by rw [alloc_eq_grow, alloc_eq_grow, grow_grow]; rfl⟩
/-- a racer's cells -/
def rcE (x : Rc) : List Value := x.v.toList
def rcV (l : List Rc) : List Value := l.flatMap rcE
theorem rcE_len (x : Rc) : (rcE x).length = 5 := rfl
theorem rcV_len (l : List Rc) : (rcV l).length = l.length * 5 := by
  induction l with
  | nil => rfl
  | cons x l ih => simp only [rcV, List.flatMap_cons, List.length_append, rcE_len, List.length_cons] at *; omega
theorem rcV_snoc (l : List Rc) (x : Rc) : rcV (l ++ [x]) = rcV l ++ rcE x := by simp [rcV]
theorem rcV_get (l : List Rc) {i r : Nat} (hi : i < l.length) (hr : r < 5) : (rcV l)[i * 5 + r]? = (rcE (l.getD i default))[r]? := by
  induction l generalizing i with
  | nil => simp at hi
  | cons x l ih =>
    simp only [rcV, List.flatMap_cons] at *
    cases i with
    | zero => rw [Nat.zero_mul, Nat.zero_add, List.getElem?_append_left (by rw [rcE_len]; exact hr)]; rfl
    | succ i =>
      rw [List.getElem?_append_right (by rw [rcE_len]; omega), rcE_len, show (i + 1) * 5 + r - 5 = i * 5 + r by omega]
      rw [ih (by simpa using hi)]
      simp
theorem flat_rc (l : List Rc) : (flatK rcE 5 l.toArray).toList = rcV l := by
  apply List.ext_getElem?
  intro t
  by_cases ht : t < l.length * 5
  · have e := rcV_get l (i := t / 5) (r := t % 5) (by omega) (by omega)
    rw [show t / 5 * 5 + t % 5 = t by omega] at e
    rw [e]
    have h2 := get_flatK rcE 5 l.toArray t (by simpa using ht)
    have hs : t < (flatK rcE 5 l.toArray).size := by simpa using ht
    rw [getElem!_pos (flatK rcE 5 l.toArray) t hs] at h2
    have hq : t / 5 < l.length := by omega
    have h3 : (l.toArray)[t / 5]! = l.getD (t / 5) default := by
      rw [getElem!_pos l.toArray (t / 5) (by simpa using hq)]
      simp [List.getD_eq_getElem?_getD, hq]
    rw [h3] at h2
    have hr : t % 5 < (rcE (l.getD (t / 5) default)).length := by rw [rcE_len]; omega
    rw [getElem!_pos (rcE (l.getD (t / 5) default)) (t % 5) hr] at h2
    rw [List.getElem?_eq_getElem (by simpa using hs), List.getElem?_eq_getElem hr, ← h2]
    simp
  · rw [List.getElem?_eq_none (by simp; omega), List.getElem?_eq_none (by rw [rcV_len]; omega)]
theorem holds_rc {W : World} {g n : Nat} {cur : Array Value} {l : List Rc} (hb : W.heap[g]? = some (.cells cur 60 (0, 0))) (ht : cur.toList.take (l.length * 5) = rcV l) : HoldsK rcE 5 W g 0 l.toArray := by
  intro j hj
  have hj' : j < l.length * 5 := by simpa using hj
  refine ⟨?_, by simp [World.frozen?, hb]⟩
  have h1 : (cur.toList.take (l.length * 5))[j]? = ((flatK rcE 5 l.toArray).toList)[j]? := by rw [ht, flat_rc]
  rw [List.getElem?_take_of_lt hj'] at h1
  simp only [World.cell?, hb, Nat.zero_add]
  simp only [Option.isSome_none, Bool.false_eq_true, if_false]
  rw [← Array.getElem?_toList, h1, Array.getElem?_toList]
  rw [getElem!_pos (flatK rcE 5 l.toArray) j hj]
  simp only [id]
  exact Array.getElem?_eq_getElem hj
theorem heap_srt {w : World} {g n : Nat} {os : Array Obj} {cur : Array Value} {e : TypeId} {fr : Nat × Nat} (F : Array Value) (hb : w.heap[g]? = some (.cells cur e fr)) :
    (grow (putRow id (Sort.ahead w n) g 0 F) os).heap[g]? = some (.cells (putCells id 0 F cur) e fr) := by
  have hg : g < w.heap.size := (Array.getElem?_eq_some_iff.1 hb).1
  rw [heap_grow_old _ _ (by simpa using hg)]
  simp [putRow, mapBlock, Sort.ahead, Array.getElem?_modify, hb, onCells]
theorem grownBy_srt {w : World} {g n : Nat} {os : Array Obj} (F : Array Value) : w.grownBy (grow (putRow id (Sort.ahead w n) g 0 F) os) (some g) := by
  refine ⟨rfl, rfl, rfl, by simp, fun k hk hne => ?_⟩
  rw [heap_grow_old _ _ (by simpa using hk)]
  have : g ≠ k := fun e => hne (by rw [e])
  simp [putRow, mapBlock, Sort.ahead, Array.getElem?_modify, this]
theorem take_putFlat (cur F : Array Value) (h : F.size ≤ cur.size) : (putCells id 0 F cur).toList.take F.size = F.toList := by
  apply List.ext_getElem?
  intro j
  by_cases hj : j < F.size
  · rw [List.getElem?_take_of_lt hj, Array.getElem?_toList]
    simp [putCells, hj, show j < cur.size by omega]
  · rw [List.getElem?_take_eq_none (by omega), List.getElem?_eq_none (by simp; omega)]
/-- behind the sort the same slice owns what was sorted -/
theorem own_srt {w : World} {base g cap n : Nat} {os : Array Obj} {cur : Array Value} {l l' : List Rc} (hl : l'.length = l.length) (hbase : base ≤ g) (hb : w.heap[g]? = some (.cells cur 60 (0, 0)))
    (h1 : l.length ≤ cap) (h2 : cap ≤ maxLen) (h3 : cur.size = cap * 5) :
    (sortWorldK rcE 5 w g 0 n l'.toArray os).ownsRow base 60 5 (.slice (some ⟨g, 0, none⟩) l.length cap) l.length (rcV l') := by
  unfold sortWorldK putRowK
  have hF : (flatK rcE 5 l'.toArray).size = l.length * 5 := by simp [hl]
  refine ⟨by rw [rcV_len, hl], .inr ⟨g, cap, _, rfl, hbase, heap_srt _ hb, h1, h2, by simp [putCells, h3], ?_⟩⟩
  rw [← hF, take_putFlat _ _ (by rw [hF, h3]; omega), flat_rc]
/-- sorted by ring -/
def srt (l : List Rc) : List Rc := l.mergeSort fun x y => decide (x.bird ≤ y.bird)
theorem srt_len (l : List Rc) : (srt l).length = l.length := by simp [srt]
theorem srt_perm (l : List Rc) : (srt l).Perm l := List.mergeSort_perm _ _
theorem srt_pw (l : List Rc) : (srt l).Pairwise fun x y => x.bird ≤ y.bird := by
  have := List.pairwise_mergeSort (le := fun x y : Rc => decide (x.bird ≤ y.bird)) (fun a b c h1 h2 => by simp at *; omega) (fun a b => by simp; omega) l
  exact this.imp fun h => by simpa using h
/-- no two of one ring -/
def Uniq (l : List Rc) : Prop := l.Pairwise fun x y => x.bird ≠ y.bird
theorem uniq_eq {l : List Rc} (h : Uniq l) {x y : Rc} (hx : x ∈ l) (hy : y ∈ l) (e : x.bird = y.bird) : x = y := by
  induction l with
  | nil => simp at hx
  | cons a l ih =>
    rw [Uniq, List.pairwise_cons] at h
    rcases List.mem_cons.1 hx with h1 | h1
    · rcases List.mem_cons.1 hy with h2 | h2
      · rw [h1, h2]
      · rw [h1] at e
        exact absurd e (h.1 y h2)
    · rcases List.mem_cons.1 hy with h2 | h2
      · rw [h2] at e
        exact absurd e.symm (h.1 x h1)
      · exact ih h.2 h1 h2
theorem srt_unique {l l' : List Rc} (h : Uniq l) (hp : l'.Perm l) (hs : l'.Pairwise fun x y => x.bird ≤ y.bird) : l' = srt l :=
  List.Perm.eq_of_pairwise (le := fun x y : Rc => x.bird ≤ y.bird) (fun a b ha hb h1 h2 => uniq_eq h (hp.mem_iff.1 ha) ((srt_perm l).mem_iff.1 hb) (by omega)) hs (srt_pw l) (hp.trans (srt_perm l).symm)
theorem ltBird (x y : Rc) : decide (birdC x y < 0) = decide (x.bird < y.bird) := by
  unfold birdC cmpI
  by_cases h1 : x.bird < y.bird
  · simp [h1]
  · by_cases h2 : y.bird < x.bird <;> simp [h1, h2]
end Go.Proofs.YtnkmcoljijmgpaaGreat

set_option linter.unusedSimpArgs false
set_option linter.unusedVariables false
namespace Go.Proofs.YtnkmcoljijmgpaaGreat
open Go.RowKit Go.Shelf
attribute [local go_sem] Oper.semAt_some
/-- the cells of a fund -/
def IsFu (A : Array Value) : Prop := ∃ (x0 x1 x2 : Int) (x3 : Option Addr) (xl xc : Nat) (x4 : Int) (x5 : Bool) (x6 : Option Addr) (xm xd : Nat) (x7 : Option Addr) (xn xe : Nat), A = #[.int .i64 x0, .int .i64 x1, .int .i64 x2, .slice x3 xl xc, .int .i64 x4, .bool x5, .slice x6 xm xd, .slice x7 xn xe]
/-- the cells of a racer -/
def IsRc (A : Array Value) : Prop := ∃ (x0 x1 x2 x3 : Int) (x4 : Option Addr) (xl xc : Nat), A = #[.int .i64 x0, .int .i64 x1, .int .i64 x2, .int .i64 x3, .slice x4 xl xc]
set_option maxRecDepth 100000 in
set_option maxHeartbeats 4000000 in
theorem store85 (W : World) (g : Nat) (d s : Operand) {OLD NEW : Array Value} (hO : IsFu OLD) (hR : IsFu NEW) (op : Oper) (ev : Operand → Value) (ho : op.op = .store 85 d s) (hv : ev d = .pointer (some ⟨g, 0, none⟩)) (hs : ev s = .agg NEW) (hB : Blk W g 85 OLD) :
    ∃ W2, (execOp ev op).run Tryz.prog W = .ok .skip W2 ∧ Blk W2 g 85 NEW ∧ (∀ b, b ≠ g → W2.heap[b]? = W.heap[b]?) ∧ ∀ w0 : World, w0.heap.size ≤ g → G w0 W → G w0 W2 := by
  obtain ⟨y0, y1, y2, y3, yl, yc, y4, y5, y6, ym, yd, y7, yn, ye, rfl⟩ := hO
  obtain ⟨x0, x1, x2, x3, xl, xc, x4, x5, x6, xm, xd, x7, xn, xe, rfl⟩ := hR
  have c0 : W.cell? ⟨g, 0, none⟩ = some (.int .i64 y0) := hB.cell 0
  have z0 := hB.frozen 0
  have c1 : W.cell? ⟨g, 1, none⟩ = some (.int .i64 y1) := hB.cell 1
  have z1 := hB.frozen 1
  have c2 : W.cell? ⟨g, 2, none⟩ = some (.int .i64 y2) := hB.cell 2
  have z2 := hB.frozen 2
  have c3 : W.cell? ⟨g, 3, none⟩ = some (.slice y3 yl yc) := hB.cell 3
  have z3 := hB.frozen 3
  have c4 : W.cell? ⟨g, 4, none⟩ = some (.int .i64 y4) := hB.cell 4
  have z4 := hB.frozen 4
  have c5 : W.cell? ⟨g, 5, none⟩ = some (.bool y5) := hB.cell 5
  have z5 := hB.frozen 5
  have c6 : W.cell? ⟨g, 6, none⟩ = some (.slice y6 ym yd) := hB.cell 6
  have z6 := hB.frozen 6
  have c7 : W.cell? ⟨g, 7, none⟩ = some (.slice y7 yn ye) := hB.cell 7
  have z7 := hB.frozen 7
  have lB := hB.lt
  refine ⟨((((((((W).setCell ⟨g, 0, none⟩ (.int .i64 x0)).setCell ⟨g, 1, none⟩ (.int .i64 x1)).setCell ⟨g, 2, none⟩ (.int .i64 x2)).setCell ⟨g, 3, none⟩ (.slice x3 xl xc)).setCell ⟨g, 4, none⟩ (.int .i64 x4)).setCell ⟨g, 5, none⟩ (.bool x5)).setCell ⟨g, 6, none⟩ (.slice x6 xm xd)).setCell ⟨g, 7, none⟩ (.slice x7 xn xe), ?_, ?_, ?_, fun w0 hg hG => ((((((((hG).s (p := ⟨g, 0, none⟩) hg (.int .i64 x0)).s (p := ⟨g, 1, none⟩) hg (.int .i64 x1)).s (p := ⟨g, 2, none⟩) hg (.int .i64 x2)).s (p := ⟨g, 3, none⟩) hg (.slice x3 xl xc)).s (p := ⟨g, 4, none⟩) hg (.int .i64 x4)).s (p := ⟨g, 5, none⟩) hg (.bool x5)).s (p := ⟨g, 6, none⟩) hg (.slice x6 xm xd)).s (p := ⟨g, 7, none⟩) hg (.slice x7 xn xe)⟩
  · clear hB
    unfold execOp
    simp only [ho, hv, hs]
    go_simp
  · have b := ((((((((hB).set_ 0 (.int .i64 x0)).set_ 1 (.int .i64 x1)).set_ 2 (.int .i64 x2)).set_ 3 (.slice x3 xl xc)).set_ 4 (.int .i64 x4)).set_ 5 (.bool x5)).set_ 6 (.slice x6 xm xd)).set_ 7 (.slice x7 xn xe)
    simp only [List.setIfInBounds_toArray, List.set_cons_zero, List.set_cons_succ] at b
    exact b
  · exact far_trans (far_trans (far_trans (far_trans (far_trans (far_trans (far_trans (far_trans (fun _ _ => rfl) 0 (.int .i64 x0)) 1 (.int .i64 x1)) 2 (.int .i64 x2)) 3 (.slice x3 xl xc)) 4 (.int .i64 x4)) 5 (.bool x5)) 6 (.slice x6 xm xd)) 7 (.slice x7 xn xe)
theorem wp_store85 {o : Oper} {a : Act} {W : World} {K : Act → World → Prop} {Q : Exit → Act → World → Prop} (g : Nat) (d s : Operand) {OLD NEW : Array Value} (hO : IsFu OLD) (hR : IsFu NEW) (ho : o.op = .store 85 d s) (hv : a.eval d = .pointer (some ⟨g, 0, none⟩)) (hs : a.eval s = .agg NEW) (hB : Blk W g 85 OLD)
    (hk : ∀ W2, Blk W2 g 85 NEW → (∀ b, b ≠ g → W2.heap[b]? = W.heap[b]?) → (∀ w0 : World, w0.heap.size ≤ g → G w0 W → G w0 W2) → K (a.put o.dst undef) W2) : Oper.wp Tryz.prog o a W K Q := by
  obtain ⟨W2, h1, h2, h3, h4⟩ := store85 W g d s hO hR o a.eval ho hv hs hB
  unfold Oper.wp
  rw [h1]
  exact hk W2 h2 h3 h4
theorem wpList_store85 {w : World} {ops : Array Oper} {rest : List Oper} {o : Oper} {a : Act} {Q : Exit → Act → World → Prop} (g : Nat) (d s : Operand) {OLD NEW : Array Value} (hO : IsFu OLD) (hR : IsFu NEW) (hgd : o.guard = none) (ho : o.op = .store 85 d s) (hv : a.eval d = .pointer (some ⟨g, 0, none⟩)) (hs : a.eval s = .agg NEW) (hB : Blk w g 85 OLD)
    (h : ∀ W2, Blk W2 g 85 NEW → (∀ b, b ≠ g → W2.heap[b]? = w.heap[b]?) → (∀ w0 : World, w0.heap.size ≤ g → G w0 w → G w0 W2) → wpList Tryz.prog ops Q rest (a.put o.dst undef) W2) : wpList Tryz.prog ops Q (o :: rest) a w := by
  refine wpList_plain hgd fun K hK => ?_
  exact wp_store85 g d s hO hR ho hv hs hB fun W2 h1 h2 h3 => hK _ _ (h W2 h1 h2 h3)
set_option maxRecDepth 100000 in
set_option maxHeartbeats 4000000 in
theorem load85 (W : World) (g : Nat) (d : Operand) {REL : Array Value} (hR : IsFu REL) (op : Oper) (ev : Operand → Value) (ho : op.op = .load 85 d) (hv : ev d = .pointer (some ⟨g, 0, none⟩)) (hB : Blk W g 85 REL) : (execOp ev op).run Tryz.prog W = .ok (.value (.agg REL)) W := by
  obtain ⟨x0, x1, x2, x3, xl, xc, x4, x5, x6, xm, xd, x7, xn, xe, rfl⟩ := hR
  have c0 : W.cell? ⟨g, 0, none⟩ = some (.int .i64 x0) := hB.cell 0
  have c1 : W.cell? ⟨g, 1, none⟩ = some (.int .i64 x1) := hB.cell 1
  have c2 : W.cell? ⟨g, 2, none⟩ = some (.int .i64 x2) := hB.cell 2
  have c3 : W.cell? ⟨g, 3, none⟩ = some (.slice x3 xl xc) := hB.cell 3
  have c4 : W.cell? ⟨g, 4, none⟩ = some (.int .i64 x4) := hB.cell 4
  have c5 : W.cell? ⟨g, 5, none⟩ = some (.bool x5) := hB.cell 5
  have c6 : W.cell? ⟨g, 6, none⟩ = some (.slice x6 xm xd) := hB.cell 6
  have c7 : W.cell? ⟨g, 7, none⟩ = some (.slice x7 xn xe) := hB.cell 7
  have lB := hB.lt
  clear hB
  unfold execOp
  simp only [ho, hv]
  go_simp
  try rfl
theorem wpList_load85 {w : World} {ops : Array Oper} {rest : List Oper} {o : Oper} {a : Act} {Q : Exit → Act → World → Prop} (g : Nat) (d : Operand) {REL : Array Value} (hR : IsFu REL) (hgd : o.guard = none) (ho : o.op = .load 85 d) (hv : a.eval d = .pointer (some ⟨g, 0, none⟩)) (hB : Blk w g 85 REL)
    (h : wpList Tryz.prog ops Q rest (a.put o.dst (.agg REL)) w) : wpList Tryz.prog ops Q (o :: rest) a w := by
  refine wpList_plain hgd fun K hK => ?_
  unfold Oper.wp
  rw [load85 w g d hR o a.eval ho hv hB]
  exact hK _ _ h
set_option maxRecDepth 100000 in
set_option maxHeartbeats 4000000 in
theorem store60 (W : World) (g : Nat) (d s : Operand) {OLD NEW : Array Value} (hO : IsRc OLD) (hR : IsRc NEW) (op : Oper) (ev : Operand → Value) (ho : op.op = .store 60 d s) (hv : ev d = .pointer (some ⟨g, 0, none⟩)) (hs : ev s = .agg NEW) (hB : Blk W g 60 OLD) :
    ∃ W2, (execOp ev op).run Tryz.prog W = .ok .skip W2 ∧ Blk W2 g 60 NEW ∧ (∀ b, b ≠ g → W2.heap[b]? = W.heap[b]?) ∧ ∀ w0 : World, w0.heap.size ≤ g → G w0 W → G w0 W2 := by
  obtain ⟨y0, y1, y2, y3, y4, yl, yc, rfl⟩ := hO
  obtain ⟨x0, x1, x2, x3, x4, xl, xc, rfl⟩ := hR
  have c0 : W.cell? ⟨g, 0, none⟩ = some (.int .i64 y0) := hB.cell 0
  have z0 := hB.frozen 0
  have c1 : W.cell? ⟨g, 1, none⟩ = some (.int .i64 y1) := hB.cell 1
  have z1 := hB.frozen 1
  have c2 : W.cell? ⟨g, 2, none⟩ = some (.int .i64 y2) := hB.cell 2
  have z2 := hB.frozen 2
  have c3 : W.cell? ⟨g, 3, none⟩ = some (.int .i64 y3) := hB.cell 3
  have z3 := hB.frozen 3
  have c4 : W.cell? ⟨g, 4, none⟩ = some (.slice y4 yl yc) := hB.cell 4
  have z4 := hB.frozen 4
  have lB := hB.lt
  refine ⟨(((((W).setCell ⟨g, 0, none⟩ (.int .i64 x0)).setCell ⟨g, 1, none⟩ (.int .i64 x1)).setCell ⟨g, 2, none⟩ (.int .i64 x2)).setCell ⟨g, 3, none⟩ (.int .i64 x3)).setCell ⟨g, 4, none⟩ (.slice x4 xl xc), ?_, ?_, ?_, fun w0 hg hG => (((((hG).s (p := ⟨g, 0, none⟩) hg (.int .i64 x0)).s (p := ⟨g, 1, none⟩) hg (.int .i64 x1)).s (p := ⟨g, 2, none⟩) hg (.int .i64 x2)).s (p := ⟨g, 3, none⟩) hg (.int .i64 x3)).s (p := ⟨g, 4, none⟩) hg (.slice x4 xl xc)⟩
  · clear hB
    unfold execOp
    simp only [ho, hv, hs]
    go_simp
  · have b := (((((hB).set_ 0 (.int .i64 x0)).set_ 1 (.int .i64 x1)).set_ 2 (.int .i64 x2)).set_ 3 (.int .i64 x3)).set_ 4 (.slice x4 xl xc)
    simp only [List.setIfInBounds_toArray, List.set_cons_zero, List.set_cons_succ] at b
    exact b
  · exact far_trans (far_trans (far_trans (far_trans (far_trans (fun _ _ => rfl) 0 (.int .i64 x0)) 1 (.int .i64 x1)) 2 (.int .i64 x2)) 3 (.int .i64 x3)) 4 (.slice x4 xl xc)
theorem wp_store60 {o : Oper} {a : Act} {W : World} {K : Act → World → Prop} {Q : Exit → Act → World → Prop} (g : Nat) (d s : Operand) {OLD NEW : Array Value} (hO : IsRc OLD) (hR : IsRc NEW) (ho : o.op = .store 60 d s) (hv : a.eval d = .pointer (some ⟨g, 0, none⟩)) (hs : a.eval s = .agg NEW) (hB : Blk W g 60 OLD)
    (hk : ∀ W2, Blk W2 g 60 NEW → (∀ b, b ≠ g → W2.heap[b]? = W.heap[b]?) → (∀ w0 : World, w0.heap.size ≤ g → G w0 W → G w0 W2) → K (a.put o.dst undef) W2) : Oper.wp Tryz.prog o a W K Q := by
  obtain ⟨W2, h1, h2, h3, h4⟩ := store60 W g d s hO hR o a.eval ho hv hs hB
  unfold Oper.wp
  rw [h1]
  exact hk W2 h2 h3 h4
theorem wpList_store60 {w : World} {ops : Array Oper} {rest : List Oper} {o : Oper} {a : Act} {Q : Exit → Act → World → Prop} (g : Nat) (d s : Operand) {OLD NEW : Array Value} (hO : IsRc OLD) (hR : IsRc NEW) (hgd : o.guard = none) (ho : o.op = .store 60 d s) (hv : a.eval d = .pointer (some ⟨g, 0, none⟩)) (hs : a.eval s = .agg NEW) (hB : Blk w g 60 OLD)
    (h : ∀ W2, Blk W2 g 60 NEW → (∀ b, b ≠ g → W2.heap[b]? = w.heap[b]?) → (∀ w0 : World, w0.heap.size ≤ g → G w0 w → G w0 W2) → wpList Tryz.prog ops Q rest (a.put o.dst undef) W2) : wpList Tryz.prog ops Q (o :: rest) a w := by
  refine wpList_plain hgd fun K hK => ?_
  exact wp_store60 g d s hO hR ho hv hs hB fun W2 h1 h2 h3 => hK _ _ (h W2 h1 h2 h3)
set_option maxRecDepth 100000 in
set_option maxHeartbeats 4000000 in
theorem load60 (W : World) (g : Nat) (d : Operand) {REL : Array Value} (hR : IsRc REL) (op : Oper) (ev : Operand → Value) (ho : op.op = .load 60 d) (hv : ev d = .pointer (some ⟨g, 0, none⟩)) (hB : Blk W g 60 REL) : (execOp ev op).run Tryz.prog W = .ok (.value (.agg REL)) W := by
  obtain ⟨x0, x1, x2, x3, x4, xl, xc, rfl⟩ := hR
  have c0 : W.cell? ⟨g, 0, none⟩ = some (.int .i64 x0) := hB.cell 0
  have c1 : W.cell? ⟨g, 1, none⟩ = some (.int .i64 x1) := hB.cell 1
  have c2 : W.cell? ⟨g, 2, none⟩ = some (.int .i64 x2) := hB.cell 2
  have c3 : W.cell? ⟨g, 3, none⟩ = some (.int .i64 x3) := hB.cell 3
  have c4 : W.cell? ⟨g, 4, none⟩ = some (.slice x4 xl xc) := hB.cell 4
  have lB := hB.lt
  clear hB
  unfold execOp
  simp only [ho, hv]
  go_simp
  try rfl
theorem wpList_load60 {w : World} {ops : Array Oper} {rest : List Oper} {o : Oper} {a : Act} {Q : Exit → Act → World → Prop} (g : Nat) (d : Operand) {REL : Array Value} (hR : IsRc REL) (hgd : o.guard = none) (ho : o.op = .load 60 d) (hv : a.eval d = .pointer (some ⟨g, 0, none⟩)) (hB : Blk w g 60 REL)
    (h : wpList Tryz.prog ops Q rest (a.put o.dst (.agg REL)) w) : wpList Tryz.prog ops Q (o :: rest) a w := by
  refine wpList_plain hgd fun K hK => ?_
  unfold Oper.wp
  rw [load60 w g d hR o a.eval ho hv hB]
  exact hK _ _ h
set_option maxRecDepth 100000 in
set_option maxHeartbeats 4000000 in
theorem res53 (tmps : Array Value) (w : World) (g : Nat) {REL : Array Value} (hR : IsFu REL) (h : tmps.getD 4 undef = .pointer (some ⟨g, 0, none⟩)) (hB : Blk w g 85 REL) :
    (results Tryz.f53 tmps).run Tryz.prog w = .ok (.agg REL) w := by
  obtain ⟨x0, x1, x2, x3, xl, xc, x4, x5, x6, xm, xd, x7, xn, xe, rfl⟩ := hR
  have c0 : w.cell? ⟨g, 0, none⟩ = some (.int .i64 x0) := hB.cell 0
  have c1 : w.cell? ⟨g, 1, none⟩ = some (.int .i64 x1) := hB.cell 1
  have c2 : w.cell? ⟨g, 2, none⟩ = some (.int .i64 x2) := hB.cell 2
  have c3 : w.cell? ⟨g, 3, none⟩ = some (.slice x3 xl xc) := hB.cell 3
  have c4 : w.cell? ⟨g, 4, none⟩ = some (.int .i64 x4) := hB.cell 4
  have c5 : w.cell? ⟨g, 5, none⟩ = some (.bool x5) := hB.cell 5
  have c6 : w.cell? ⟨g, 6, none⟩ = some (.slice x6 xm xd) := hB.cell 6
  have c7 : w.cell? ⟨g, 7, none⟩ = some (.slice x7 xn xe) := hB.cell 7
  clear hB
  have hr : Tryz.f53.results = #[.cell 4 85] := rfl
  have h' : tmps[4]?.getD undef = .pointer (some ⟨g, 0, none⟩) := by simpa using h
  simp only [results, hr]
  go_simp
end Go.Proofs.YtnkmcoljijmgpaaGreat

set_option linter.unusedSimpArgs false
set_option linter.unusedVariables false
namespace Go.Proofs.YtnkmcoljijmgpaaGreat
open Go.RowKit Go.Shelf Go.Sort
attribute [local go_sem] Oper.semAt_some
def Tryz.sortRc_ren : Go.Shelf.Ren := ⟨fun | 6 => 77 | 15 => 102 | 14 => 101 | 28 => 127 | 29 => 128 | 20 => 119 | 21 => 120 | 22 => 121 | 23 => 122 | 24 => 123 | 25 => 124 | 26 => 125 | 27 => 126 | 46 => 151 | 47 => 152 | 48 => 153 | 49 => 154 | 50 => 155 | 57 => 164 | n => n, fun | 22 => 22 | 24 => 60 | 25 => 123 | 3 => 3 | 39 => 72 | 0 => 0 | 53 => 156 | 55 => 158 | 4 => 4 | 46 => 149 | 45 => 148 | 50 => 153 | 5 => 5 | 9 => 9 | 66 => 172 | 70 => 176 | 76 => 182 | 77 => 183 | n => n, fun | n => n⟩
theorem Tryz.sortRc : Go.Proofs.SlLaysF0.n6 Tryz.prog Tryz.sortRc_ren := {
  mixed := by kernel_rfl,
  f6 := ⟨Tryz.f77.name, by decide, Tryz.func77.trans (congrArg some (by kernel_rfl))⟩,
  f14 := ⟨Tryz.f101.name, by decide, Tryz.func101.trans (congrArg some (by kernel_rfl))⟩,
  f15 := Tryz.func102.trans (congrArg some (by kernel_rfl)),
  f20 := ⟨Tryz.f119.name, by decide, Tryz.func119.trans (congrArg some (by kernel_rfl))⟩,
  f21 := ⟨Tryz.f120.name, by decide, Tryz.func120.trans (congrArg some (by kernel_rfl))⟩,
  f22 := ⟨Tryz.f121.name, by decide, Tryz.func121.trans (congrArg some (by kernel_rfl))⟩,
  f23 := ⟨Tryz.f122.name, by decide, Tryz.func122.trans (congrArg some (by kernel_rfl))⟩,
  f24 := ⟨Tryz.f123.name, by decide, Tryz.func123.trans (congrArg some (by kernel_rfl))⟩,
  f25 := ⟨Tryz.f124.name, by decide, Tryz.func124.trans (congrArg some (by kernel_rfl))⟩,
  f26 := ⟨Tryz.f125.name, by decide, Tryz.func125.trans (congrArg some (by kernel_rfl))⟩,
  f27 := ⟨Tryz.f126.name, by decide, Tryz.func126.trans (congrArg some (by kernel_rfl))⟩,
  f28 := Tryz.func127.trans (congrArg some (by kernel_rfl)),
  f29 := Tryz.func128.trans (congrArg some (by kernel_rfl)),
  f46 := ⟨Tryz.f151.name, by decide, Tryz.func151.trans (congrArg some (by kernel_rfl))⟩,
  f47 := Tryz.func152.trans (congrArg some (by kernel_rfl)),
  f48 := Tryz.func153.trans (congrArg some (by kernel_rfl)),
  f49 := ⟨Tryz.f154.name, by decide, Tryz.func154.trans (congrArg some (by kernel_rfl))⟩,
  f50 := ⟨Tryz.f155.name, by decide, Tryz.func155.trans (congrArg some (by kernel_rfl))⟩,
  f57 := ⟨Tryz.f164.name, by decide, Tryz.func164.trans (congrArg some (by kernel_rfl))⟩,
  t0 := Tryz.underlying0,
  a0 := Tryz.isAgg0,
  z0 := Tryz.sizeOf0,
  v0 := Tryz.zeroValue0,
  t3 := Tryz.underlying3,
  a3 := Tryz.isAgg3,
  z3 := Tryz.sizeOf3,
  v3 := Tryz.zeroValue3,
  t4 := Tryz.underlying4,
  a4 := Tryz.isAgg4,
  z4 := Tryz.sizeOf4,
  v4 := Tryz.zeroValue4,
  t5 := Tryz.underlying5,
  a5 := Tryz.isAgg5,
  z5 := Tryz.sizeOf5,
  v5 := Tryz.zeroValue5,
  t9 := Tryz.underlying9,
  a9 := Tryz.isAgg9,
  z9 := Tryz.sizeOf9,
  v9 := Tryz.zeroValue9,
  t22 := Tryz.underlying22,
  a22 := Tryz.isAgg22,
  z22 := Tryz.sizeOf22,
  v22 := Tryz.zeroValue22,
  t25 := Tryz.underlying123,
  a25 := Tryz.isAgg123,
  z25 := Tryz.sizeOf123,
  v25 := Tryz.zeroValue123,
  t39 := Tryz.underlying72,
  a39 := Tryz.isAgg72,
  z39 := Tryz.sizeOf72,
  v39 := Tryz.zeroValue72,
  t45 := Tryz.underlying148,
  a45 := Tryz.isAgg148,
  z45 := Tryz.sizeOf148,
  v45 := Tryz.zeroValue148,
  t46 := Tryz.underlying149,
  a46 := Tryz.isAgg149,
  z46 := Tryz.sizeOf149,
  v46 := Tryz.zeroValue149,
  t50 := Tryz.underlying153,
  a50 := Tryz.isAgg153,
  z50 := Tryz.sizeOf153,
  v50 := Tryz.zeroValue153,
  t53 := Tryz.underlying156,
  a53 := Tryz.isAgg156,
  z53 := Tryz.sizeOf156,
  v53 := Tryz.zeroValue156,
  t55 := Tryz.underlying158,
  a55 := Tryz.isAgg158,
  z55 := Tryz.sizeOf158,
  v55 := Tryz.zeroValue158,
  t66 := Tryz.underlying172,
  a66 := Tryz.isAgg172,
  z66 := Tryz.sizeOf172,
  v66 := Tryz.zeroValue172,
  t70 := Tryz.underlying176,
  a70 := Tryz.isAgg176,
  z70 := Tryz.sizeOf176,
  v70 := Tryz.zeroValue176,
  t76 := Tryz.underlying182,
  a76 := Tryz.isAgg182,
  z76 := Tryz.sizeOf182,
  v76 := Tryz.zeroValue182,
  t77 := Tryz.underlying183,
  a77 := Tryz.isAgg183,
  z77 := Tryz.sizeOf183,
  v77 := Tryz.zeroValue183 }

theorem perm_toList {α : Type} [Inhabited α] {d d' : Array α} (h : PermIn 0 d.size d d') : d'.toList.Perm d.toList := by
  obtain ⟨h1, _, h3⟩ := h
  have e1 : d'.extract 0 d.size = d' := by rw [← h1]; exact Array.extract_size
  rw [e1, Array.extract_size] at h3
  exact h3
theorem swoBird : SWO (ltOf birdC) where
  irrefl x := by rw [show ltOf birdC x x = _ from ltBird x x]; simp
  trans x y z h1 h2 := by rw [show ltOf birdC x y = _ from ltBird x y] at h1; rw [show ltOf birdC y z = _ from ltBird y z] at h2; rw [show ltOf birdC x z = _ from ltBird x z]; simp at *; omega
  ntrans x y z h1 h2 := by rw [show ltOf birdC x y = _ from ltBird x y] at h1; rw [show ltOf birdC y z = _ from ltBird y z] at h2; rw [show ltOf birdC x z = _ from ltBird x z]; simp at *; omega
theorem srt_of {l : List Rc} (hu : Uniq l) {d' : Array Rc} (hp : PermIn 0 l.toArray.size l.toArray d') (hs : SortedIn (ltOf birdC) 0 l.toArray.size d') : d' = (srt l).toArray := by
  have e : d'.toList = srt l := srt_unique hu (by simpa using perm_toList hp) (by
    rw [List.pairwise_iff_getElem]
    intro i j hi hj hij
    have hsz : d'.size = l.toArray.size := hp.1
    have hi' : i < d'.size := by simpa using hi
    have hj' : j < d'.size := by simpa using hj
    have := hs i j (Nat.zero_le _) hij (by omega)
    rw [show ltOf birdC d'[j]! d'[i]! = _ from ltBird _ _] at this
    rw [getElem!_pos d' j hj', getElem!_pos d' i hi'] at this
    simp at this
    simpa using this)
  rw [← e]
/-- slices.SortFunc by ring, at a row of one's own -/
theorem sort_own (l : List Rc) (hu : Uniq l) (hl : l.length ≤ 1000) (W : World) (B : Nat) (v : Value) (h : W.ownsRow B 60 5 v l.length (rcV l)) : Calls Tryz.prog 77 #[v, .func (.func 78) #[] #[]] W fun e w' => e = .returned (.tuple #[]) ∧ w'.ownsRow B 60 5 v l.length (rcV (srt l)) ∧ W.grownBy w' v.ownBlock := by
  rcases h.2 with ⟨rfl, h0⟩ | ⟨g, cap, cur, rfl, hb, hg, h1, h2, h3, h4⟩
  · have hl0 : l = [] := List.length_eq_zero_iff.1 h0
    subst hl0
    have hc := AnyF.slices_SortFunc_none Tryz.sortRc none 0 (.func (.func 78) #[] #[]) W
    change Calls Tryz.prog 77 _ _ _ at hc
    refine hc.mono ?_
    rintro e w' ⟨rfl, rfl⟩
    exact ⟨rfl, by rw [show srt [] = [] by simp [srt]]; exact h, World.grownBy.refl _ _⟩
  · have hlt : g < W.heap.size := (Array.getElem?_eq_some_iff.1 hg).1
    have hc := AnyQ.slices_SortFunc Tryz.sortRc 5 Tryz.isAgg60 Tryz.sizeOf60 rcE rcE_len (fun x v hv => by
      simp [rcE, Rc.v] at hv
      rcases hv with rfl | rfl | rfl | rfl | rfl <;> rfl) birdC swoBird 78 #[] g 0 cap l.toArray W (enters_of Tryz.func78 (by kernel_rfl) rfl) (fun m os dk _ x y => closure78 x y _) (holds_rc (n := 0) hg h4) hlt (by simp; omega)
    change Calls Tryz.prog 77 _ _ _ at hc
    rw [show l.toArray.size = l.length by simp] at hc
    refine hc.mono ?_
    rintro e w' ⟨rfl, d', n, os, hp, hs, rfl⟩
    have hd := srt_of hu (by simpa using hp) (by simpa using hs)
    subst hd
    exact ⟨rfl, own_srt (srt_len l) hb hg h1 h2 h3, grownBy_srt _⟩
end Go.Proofs.YtnkmcoljijmgpaaGreat

set_option linter.unusedSimpArgs false
set_option linter.unusedVariables false
namespace Go.Proofs.YtnkmcoljijmgpaaGreat
open Go.RowKit Go.Shelf
attribute [local go_sem] Oper.semAt_some
/-- the racers that are nominated, by ring -/
def runs (r : Ra) (p : Int) (k : Nat) : List Rc := (r.racers.take k).filter fun x => inL x.pools p
def runners (r : Ra) (p : Int) : List Rc := srt (r.racers.filter fun x => inL x.pools p)
def poolAt (r : Ra) (p : Int) : Po := r.pools.getD p.toNat default
def OpenPost (r : Ra) (p : Int) (w : World) (e : Ending) (w' : World) : Prop := ∃ fa fc, e = .returned (.agg (Fu.v ⟨poolAt r p, fa, fc, runners r p, r.ta, r.tc, r.protests⟩)) ∧ w'.ownsRow w.heap.size 60 5 (.slice fa (runners r p).length fc) (runners r p).length (rcV (runners r p)) ∧ G w w'
theorem runs_succ (r : Ra) (p : Int) {k : Nat} (h : k < r.racers.length) : runs r p (k + 1) = if inL (r.racers.getD k default).pools p = true then runs r p k ++ [r.racers.getD k default] else runs r p k := by
  unfold runs
  rw [List.take_add_one, List.filter_append, List.getElem?_eq_getElem h]
  have e : r.racers.getD k default = r.racers[k] := by simp [List.getD_eq_getElem?_getD, h]
  rw [e]
  cases hv : inL (r.racers[k]).pools p <;> simp [hv]
theorem runs_len (r : Ra) (p : Int) (k : Nat) : (runs r p k).length ≤ r.racers.length := by
  unfold runs
  exact Nat.le_trans (List.length_filter_le _ _) (by rw [List.length_take]; omega)
theorem uniq_filter {l : List Rc} (h : Uniq l) (f : Rc → Bool) : Uniq (l.filter f) := List.Pairwise.filter _ h
theorem own_away {X Y : World} {b N z g : Nat} {e : TypeId} {v : Value} {xs : List Value} (h : X.ownsRow b e z v N xs) (hF : ∀ b, b ≠ g → Y.heap[b]? = X.heap[b]?) (hne : some g ≠ v.ownBlock) : Y.ownsRow b e z v N xs := by
  refine ⟨h.1, ?_⟩
  rcases h.2 with hn | ⟨g', cap, cur, rfl, hb, hg, rest⟩
  · exact .inl hn
  · refine .inr ⟨g', cap, cur, rfl, hb, ?_, rest⟩
    rw [hF g' (fun e => hne (by rw [e]; rfl))]
    exact hg
theorem info60 : (Tryz.prog.info? 60).map (fun i => (i.zero, i.size, i.bytes)) = some (some (.agg #[.int .i64 0, .int .i64 0, .int .i64 0, .int .i64 0, .slice none 0 0]), 5, 56) := by kernel_rfl
theorem cell_new5 (w : World) (t : TypeId) (cs : Array Value) : ∀ j u, cs.toList[j]? = some u → (w.alloc (.cells cs t)).cell? ((⟨w.heap.size, 0, none⟩ : Addr).add j) = some u :=
  World.news_of_block (cs := cs) (t := t) (fr := (0, 0)) (heap_alloc_new w _)
set_option maxRecDepth 100000 in
set_option maxHeartbeats 8000000 in
theorem open_any (r : Ra) (p : Nat) (w : World) (h : r.At w) (hp : p < r.pools.length) (hu : Uniq r.racers) (h12 : r.racers.length ≤ 12) : Calls Tryz.prog 53 #[.agg r.v, .int .i64 (p : Nat)] w (OpenPost r p w) := by
  have HI := Lib.hid (fun (i : Nat) (hi : i < r.racers.length) (W : World) (hW : G w W) => contains_any (r.racers.getD i default).pools (r.racers.getD i default).pa (r.racers.getD i default).pc p W ((h.rs.below hW).pools i hi) (h.nq i hi))
  have hrow := h.rs.row
  have hcr := h.cr
  have hpb := h.ps.row
  have HSU := Lib.hid (fun (k : Nat) (hk : k < r.racers.length) => runs_succ r p hk)
  have HLE := Lib.hid (fun (k : Nat) => runs_len r p k)
  have HSO := Lib.hid (fun (W : World) (B : Nat) (v : Value) (ho : W.ownsRow B 60 5 v (runs r p r.racers.length).length (rcV (runs r p r.racers.length))) => sort_own (runs r p r.racers.length) (uniq_filter (by rw [List.take_length]; exact hu) _) (Nat.le_trans (runs_len r p _) (by omega)) W B v ho)
  have HR0 : Hid (runs r p 0 = []) := by simp [runs, Hid]
  have HPP : Hid (∀ w' fa fc, w'.ownsRow w.heap.size 60 5 (.slice fa (runs r p r.racers.length).length fc) (runs r p r.racers.length).length (rcV (srt (runs r p r.racers.length))) → G w w' → OpenPost r p w (.returned (.agg (Fu.v ⟨r.pools.getD p default, fa, fc, srt (runs r p r.racers.length), r.ta, r.tc, r.protests⟩))) w') := fun w' fa fc a b => by
    have e : srt (runs r p r.racers.length) = runners r p := by unfold runs runners; rw [List.take_length]
    have e2 : (runs r p r.racers.length).length = (runners r p).length := by rw [← e, srt_len]
    rw [e, e2] at a
    rw [e]
    exact ⟨fa, fc, rfl, a, b⟩
  generalize OpenPost r p w = PP at *
  clear h
  obtain ⟨RS, hRS⟩ : ∃ RS : Nat → List Rc, RS = runs r p := ⟨_, rfl⟩
  rw [← hRS] at HSU HLE HSO HR0 HPP
  clear hRS
  obtain ⟨ra, rc, racers, pa, pc, pools, ta, tc, protests⟩ := r
  unfold Ra.v at *
  dsimp only at *
  rcases hpb with hpb | ⟨g, off, rfl, hg, hpc⟩
  · omega
  have hpc := hpc p hp
  obtain ⟨y, hy⟩ : ∃ y, y = pools.getD p default := ⟨_, rfl⟩
  rw [← hy] at hpc HPP
  clear hy
  obtain ⟨ystake, ycut, ykind, yta, ytc, ytable, yquota, yfirst⟩ := y
  unfold Po.v at hpc
  have HQ : Hid (∀ r, r < 6 → w.cell? ⟨g, off + p * 6 + r, none⟩ = (#[.int .i64 ystake, .int .i64 ycut, .int .i64 ykind, .slice yta ytable.length ytc, .int .i64 yquota, .bool yfirst] : Array Value)[r]?) := hpc
  clear hpc
  have hpi : (p : Int) < pools.length := by omega
  have g0 : G w ((w.alloc (.cells #[.slice ra racers.length rc, .slice (some ⟨g, off, none⟩) pools.length pc, .slice ta protests.length tc] 26)).alloc (.cells #[.int .i64 0, .int .i64 0, .int .i64 0, .slice none 0 0, .int .i64 0, .bool false, .slice none 0 0, .slice none 0 0] 85)) := ((G.rf _).a _).a _
  have b0 : Blk ((w.alloc (.cells #[.slice ra racers.length rc, .slice (some ⟨g, off, none⟩) pools.length pc, .slice ta protests.length tc] 26)).alloc (.cells #[.int .i64 0, .int .i64 0, .int .i64 0, .slice none 0 0, .int .i64 0, .bool false, .slice none 0 0, .slice none 0 0] 85)) w.heap.size 26 #[.slice ra racers.length rc, .slice (some ⟨g, off, none⟩) pools.length pc, .slice ta protests.length tc] := (Blk.new _ _ _).alloc _
  have b1 : Blk ((w.alloc (.cells #[.slice ra racers.length rc, .slice (some ⟨g, off, none⟩) pools.length pc, .slice ta protests.length tc] 26)).alloc (.cells #[.int .i64 0, .int .i64 0, .int .i64 0, .slice none 0 0, .int .i64 0, .bool false, .slice none 0 0, .slice none 0 0] 85)) (w.heap.size + 1) 85 #[.int .i64 0, .int .i64 0, .int .i64 0, .slice none 0 0, .int .i64 0, .bool false, .slice none 0 0, .slice none 0 0] := Blk.new1 _ _ _ _
  have hs1 : ((w.alloc (.cells #[.slice ra racers.length rc, .slice (some ⟨g, off, none⟩) pools.length pc, .slice ta protests.length tc] 26)).alloc (.cells #[.int .i64 0, .int .i64 0, .int .i64 0, .slice none 0 0, .int .i64 0, .bool false, .slice none 0 0, .slice none 0 0] 85)).heap.size = w.heap.size + 1 + 1 := (Array.size_push ..).trans (congrArg (· + 1) (Array.size_push ..))
  go_enter Tryz.func53, Tryz.ntmps53
  go_upto_region 1 with fail
  change Code.wp _ _ _ _ ((w.alloc (.cells #[.slice ra racers.length rc, .slice (some ⟨g, off, none⟩) pools.length pc, .slice ta protests.length tc] 26)).alloc (.cells #[.int .i64 0, .int .i64 0, .int .i64 0, .slice none 0 0, .int .i64 0, .bool false, .slice none 0 0, .slice none 0 0] 85))
  generalize ((w.alloc (.cells #[.slice ra racers.length rc, .slice (some ⟨g, off, none⟩) pools.length pc, .slice ta protests.length tc] 26)).alloc (.cells #[.int .i64 0, .int .i64 0, .int .i64 0, .slice none 0 0, .int .i64 0, .bool false, .slice none 0 0, .slice none 0 0] 85)) = W1 at *
  have hSk : ∀ W', G W1 W' → w.heap.size < W'.heap.size ∧ g < W'.heap.size ∧ W'.cell? ⟨w.heap.size, 0, none⟩ = some (.slice ra racers.length rc) ∧ W'.cell? ⟨w.heap.size, 1, none⟩ = some (.slice (some ⟨g, off, none⟩) pools.length pc) ∧ W'.cell? ⟨w.heap.size, 2, none⟩ = some (.slice ta protests.length tc) ∧ W'.cell? ⟨g, off + p * 6, none⟩ = some (.int .i64 ystake) ∧ W'.cell? ⟨g, off + p * 6 + 1, none⟩ = some (.int .i64 ycut) ∧ W'.cell? ⟨g, off + p * 6 + 2, none⟩ = some (.int .i64 ykind) ∧ W'.cell? ⟨g, off + p * 6 + 3, none⟩ = some (.slice yta ytable.length ytc) ∧ W'.cell? ⟨g, off + p * 6 + 4, none⟩ = some (.int .i64 yquota) ∧ W'.cell? ⟨g, off + p * 6 + 5, none⟩ = some (.bool yfirst) := fun W' hW =>
    ⟨(b0.keep hW).lt, Nat.lt_of_lt_of_le hg (g0.t hW).size, (b0.keep hW).cell 0, (b0.keep hW).cell 1, (b0.keep hW).cell 2, ((bcellB (g0.t hW)).1 g _ hg).trans (HQ.out 0 (by omega)), ((bcellB (g0.t hW)).1 g _ hg).trans (HQ.out 1 (by omega)), ((bcellB (g0.t hW)).1 g _ hg).trans (HQ.out 2 (by omega)), ((bcellB (g0.t hW)).1 g _ hg).trans (HQ.out 3 (by omega)), ((bcellB (g0.t hW)).1 g _ hg).trans (HQ.out 4 (by omega)), ((bcellB (g0.t hW)).1 g _ hg).trans (HQ.out 5 (by omega))⟩
  have ga := (G.rf W1).d
  refine wp_region_Y (S := fun W' => w.heap.size < W'.heap.size ∧ g < W'.heap.size ∧ W'.cell? ⟨w.heap.size, 0, none⟩ = some (.slice ra racers.length rc) ∧ W'.cell? ⟨w.heap.size, 1, none⟩ = some (.slice (some ⟨g, off, none⟩) pools.length pc) ∧ W'.cell? ⟨w.heap.size, 2, none⟩ = some (.slice ta protests.length tc) ∧ W'.cell? ⟨g, off + p * 6, none⟩ = some (.int .i64 ystake) ∧ W'.cell? ⟨g, off + p * 6 + 1, none⟩ = some (.int .i64 ycut) ∧ W'.cell? ⟨g, off + p * 6 + 2, none⟩ = some (.int .i64 ykind) ∧ W'.cell? ⟨g, off + p * 6 + 3, none⟩ = some (.slice yta ytable.length ytc) ∧ W'.cell? ⟨g, off + p * 6 + 4, none⟩ = some (.int .i64 yquota) ∧ W'.cell? ⟨g, off + p * 6 + 5, none⟩ = some (.bool yfirst)) 9 10 rfl (by kernel_rfl) (hSk _ ga) (fun hS => ?_)
  refine wpAnyY_take (i := 0) (v := ?_) rfl (by kernel_rfl) (by kernel_rfl) (by kernel_rfl) (by kernel_rfl) (fun _ _ _ h => h) (Or.inl ⟨by kernel_rfl, ?_⟩) hS ?_
  rotate_left
  · intro w' hSw; go_simp; with_reducible rfl
  try simp only [Act.put, List.getElem_toArray, List.getElem_cons_zero, List.getElem_cons_succ, List.setIfInBounds_toArray, List.set_cons_zero, List.set_cons_succ]
  refine wpAnyY_take (i := 1) (v := ?_) rfl (by kernel_rfl) (by kernel_rfl) (by kernel_rfl) (by kernel_rfl) (fun _ _ _ h => h) (Or.inl ⟨by kernel_rfl, ?_⟩) hS ?_
  rotate_left
  · intro w' hSw; obtain ⟨s0, s1, r0, r1, r2, y0, y1, y2, y3, y4, y5⟩ := hSw; go_simp; with_reducible rfl
  try simp only [Act.put, List.getElem_toArray, List.getElem_cons_zero, List.getElem_cons_succ, List.setIfInBounds_toArray, List.set_cons_zero, List.set_cons_succ]
  refine wpAnyY_take (i := 2) (v := ?_) rfl (by kernel_rfl) (by kernel_rfl) (by kernel_rfl) (by kernel_rfl) (fun _ _ _ h => h) (Or.inl ⟨by kernel_rfl, ?_⟩) hS ?_
  rotate_left
  · intro w' hSw; go_simp; with_reducible rfl
  try simp only [Act.put, List.getElem_toArray, List.getElem_cons_zero, List.getElem_cons_succ, List.setIfInBounds_toArray, List.set_cons_zero, List.set_cons_succ]
  refine wpAnyY_take (i := 3) (v := ?_) rfl (by kernel_rfl) (by kernel_rfl) (by kernel_rfl) (by kernel_rfl) (fun _ _ _ h => h) (Or.inl ⟨by kernel_rfl, ?_⟩) hS ?_
  rotate_left
  · intro w' hSw; go_simp; with_reducible rfl
  try simp only [Act.put, List.getElem_toArray, List.getElem_cons_zero, List.getElem_cons_succ, List.setIfInBounds_toArray, List.set_cons_zero, List.set_cons_succ]
  refine wpAnyY_take (i := 4) (v := ?_) rfl (by kernel_rfl) (by kernel_rfl) (by kernel_rfl) (by kernel_rfl) (fun _ _ _ h => h) (Or.inl ⟨by kernel_rfl, ?_⟩) hS ?_
  rotate_left
  · intro w' hSw; obtain ⟨s0, s1, r0, r1, r2, y0, y1, y2, y3, y4, y5⟩ := hSw; go_simp; with_reducible rfl
  try simp only [Act.put, List.getElem_toArray, List.getElem_cons_zero, List.getElem_cons_succ, List.setIfInBounds_toArray, List.set_cons_zero, List.set_cons_succ]
  refine wpAnyY_take (i := 5) (v := ?_) rfl (by kernel_rfl) (by kernel_rfl) (by kernel_rfl) (by kernel_rfl) (fun _ _ _ h => h) (Or.inl ⟨by kernel_rfl, ?_⟩) hS ?_
  rotate_left
  · intro w' hSw; go_simp; with_reducible rfl
  try simp only [Act.put, List.getElem_toArray, List.getElem_cons_zero, List.getElem_cons_succ, List.setIfInBounds_toArray, List.set_cons_zero, List.set_cons_succ]
  refine wpAnyY_take (i := 6) (v := ?_) rfl (by kernel_rfl) (by kernel_rfl) (by kernel_rfl) (by kernel_rfl) (fun _ _ _ h => h) (Or.inl ⟨by kernel_rfl, ?_⟩) hS ?_
  rotate_left
  · intro w' hSw; obtain ⟨s0, s1, r0, r1, r2, y0, y1, y2, y3, y4, y5⟩ := hSw; go_simp; with_reducible rfl
  try simp only [Act.put, List.getElem_toArray, List.getElem_cons_zero, List.getElem_cons_succ, List.setIfInBounds_toArray, List.set_cons_zero, List.set_cons_succ]
  refine wpAnyY_take (i := 7) (v := ?_) rfl (by kernel_rfl) (by kernel_rfl) (by kernel_rfl) (by kernel_rfl) (fun _ _ _ h => h) (Or.inl ⟨by kernel_rfl, ?_⟩) hS ?_
  rotate_left
  · intro w' hSw; go_simp; with_reducible rfl
  try simp only [Act.put, List.getElem_toArray, List.getElem_cons_zero, List.getElem_cons_succ, List.setIfInBounds_toArray, List.set_cons_zero, List.set_cons_succ]
  refine wpAnyY_oneSW (i := 8) (by kernel_rfl) rfl (by kernel_rfl) (fun K8 hK8 => ?_)
  go_simp
  refine hK8.out _ _ (hSk _ (ga.a _)) (fun hS => ?_)
  clear hK8
  try simp only [Act.put, List.getElem_toArray, List.getElem_cons_zero, List.getElem_cons_succ, List.setIfInBounds_toArray, List.set_cons_zero, List.set_cons_succ]
  have bz : Blk (W1.alloc (.cells #[.int .i64 0, .int .i64 0, .int .i64 0, .slice none 0 0, .int .i64 0, .bool false, .slice none 0 0, .slice none 0 0] 85)) (w.heap.size + 1 + 1) 85 #[.int .i64 0, .int .i64 0, .int .i64 0, .slice none 0 0, .int .i64 0, .bool false, .slice none 0 0, .slice none 0 0] := by
    have := Blk.new W1 85 #[.int .i64 0, .int .i64 0, .int .i64 0, .slice none 0 0, .int .i64 0, .bool false, .slice none 0 0, .slice none 0 0]
    rw [hs1] at this
    exact this
  have gz : G W1 (W1.alloc (.cells #[.int .i64 0, .int .i64 0, .int .i64 0, .slice none 0 0, .int .i64 0, .bool false, .slice none 0 0, .slice none 0 0] 85)).drew := ((G.rf W1).a _).d
  refine wpAnyY_oneW (i := 9) (by kernel_rfl) rfl (by kernel_rfl) (by kernel_rfl) (fun K9 hK9 => ?_)
  refine wp_store85 (w.heap.size + 1 + 1) (.tmp 5) (.tmp 15) (OLD := #[.int .i64 0, .int .i64 0, .int .i64 0, .slice none 0 0, .int .i64 0, .bool false, .slice none 0 0, .slice none 0 0]) (NEW := #[.int .i64 ystake, .int .i64 ycut, .int .i64 ykind, .slice yta ytable.length ytc, .int .i64 yquota, .bool yfirst, .slice none 0 0, .slice ta protests.length tc]) ⟨_, _, _, _, _, _, _, _, _, _, _, _, _, _, rfl⟩ ⟨_, _, _, _, _, _, _, _, _, _, _, _, _, _, rfl⟩ rfl rfl rfl bz (fun W2 hb2 hF2 hG2 => ?_)
  refine hK9.out _ _ ?_
  clear hK9
  try simp only [Act.put, List.getElem_toArray, List.getElem_cons_zero, List.getElem_cons_succ, List.setIfInBounds_toArray, List.set_cons_zero, List.set_cons_succ]
  refine wpAnyY_done (by kernel_rfl) ?_ _
  have g2 : G W1 W2 := hG2 W1 (by omega) gz
  clear hF2 hG2 gz bz ga hS hSk
  have m0 := (b0.keep g2).cell 0
  have l0 := (b0.keep g2).lt
  have hs2 : w.heap.size + 1 + 1 < W2.heap.size := hb2.lt
  go_wp2_with fail
  clear m0 l0
  go_loopw [19] (fun i wr => ∃ (k : Nat) (v : Value), k ≤ racers.length ∧ i = .int .i64 k ∧ Hid (Blk wr (w.heap.size + 1 + 1) 85 #[.int .i64 ystake, .int .i64 ycut, .int .i64 ykind, .slice yta ytable.length ytc, .int .i64 yquota, .bool yfirst, v, .slice ta protests.length tc] ∧ wr.ownsRow (w.heap.size + 1 + 1 + 1) 60 5 v (RS k).length (rcV (RS k))) ∧ G W1 wr) (fun i _ => racers.length - (intOf i).toNat)
  case atStart => exact ⟨0, .slice none 0 0, Nat.zero_le _, rfl, ⟨hb2, by rw [HR0.out]; exact World.ownsRow_nil _ _ _ _⟩, g2⟩
  case round =>
    clear hb2 g2 hs2
    obtain ⟨k, v, hk, rfl, HB, hG⟩ := hrel
    obtain ⟨wo, rfl⟩ : ∃ wo, wo = wr := ⟨_, rfl⟩
    by_cases hlt : k < racers.length
    · have hki : (k : Int) < racers.length := by omega
      rcases hrow with h | ⟨gr, ofr, rfl, hgr, hcell⟩
      · omega
      have lg := Nat.lt_of_lt_of_le hgr (g0.t hG).size
      have hcl := fun r hr => ((bcellB (g0.t hG)).1 gr _ hgr).trans (hcell k hlt r hr)
      have HI3 := Lib.hid (HI.out k hlt)
      have HSU3 := Lib.hid (HSU.out k hlt)
      have HL3 := Lib.hid (HLE.out k)
      obtain ⟨y, hy⟩ : ∃ y, y = racers.getD k default := ⟨_, rfl⟩
      rw [← hy] at hcl HI3 HSU3
      clear hy hcell
      obtain ⟨zbird, zowner, zrank, zday, zpa, zpc, zpools⟩ := y
      unfold Rc.v at hcl
      dsimp only at HI3 HSU3
      have q0 : wo.cell? ⟨gr, ofr + k * 5, none⟩ = some (.int .i64 zbird) := hcl 0 (by omega)
      have q1 : wo.cell? ⟨gr, ofr + k * 5 + 1, none⟩ = some (.int .i64 zowner) := hcl 1 (by omega)
      have q2 : wo.cell? ⟨gr, ofr + k * 5 + 2, none⟩ = some (.int .i64 zrank) := hcl 2 (by omega)
      have q3 : wo.cell? ⟨gr, ofr + k * 5 + 3, none⟩ = some (.int .i64 zday) := hcl 3 (by omega)
      have q4 : wo.cell? ⟨gr, ofr + k * 5 + 4, none⟩ = some (.slice zpa zpools.length zpc) := hcl 4 (by omega)
      clear hcl
      go_upto_region 5 with fail
      have bf := HB.out.1.alloc (.cells #[.int .i64 zbird, .int .i64 zowner, .int .i64 zrank, .int .i64 zday, .slice zpa zpools.length zpc] 60)
      have bx : Blk (wo.alloc (.cells #[.int .i64 zbird, .int .i64 zowner, .int .i64 zrank, .int .i64 zday, .slice zpa zpools.length zpc] 60)) wo.heap.size 60 #[.int .i64 zbird, .int .i64 zowner, .int .i64 zrank, .int .i64 zday, .slice zpa zpools.length zpc] := Blk.new _ _ _
      have ow := own_G HB.out.2 ((G.rf wo).a (.cells #[.int .i64 zbird, .int .i64 zowner, .int .i64 zrank, .int .i64 zday, .slice zpa zpools.length zpc] 60))
      have gw := hG.a (.cells #[.int .i64 zbird, .int .i64 zowner, .int .i64 zrank, .int .i64 zday, .slice zpa zpools.length zpc] 60)
      clear q0 q1 q2 q3 q4 lg HB hG
      change Code.wp _ _ _ _ (wo.alloc (.cells #[.int .i64 zbird, .int .i64 zowner, .int .i64 zrank, .int .i64 zday, .slice zpa zpools.length zpc] 60))
      obtain ⟨gx, hgx⟩ : ∃ gx, gx = wo.heap.size := ⟨_, rfl⟩
      rw [← hgx] at bx ⊢
      clear hgx
      generalize wo.alloc (.cells #[.int .i64 zbird, .int .i64 zowner, .int .i64 zrank, .int .i64 zday, .slice zpa zpools.length zpc] 60) = w2 at *
      have HO := Lib.hid ow
      clear ow
      have n4 := bx.cell 4
      have ln := bx.lt
      cases hv : inL zpools p
      · have hin := hv
        rw [hv] at HI3
        have HS4 := Lib.hid (show RS (k + 1) = RS k by have := HSU3.out; rw [hv] at this; simpa using this)
        clear hv hin HSU3
        go_wp2_with (go_at_call 76; refine (HI3.out _ (g0.t gw)).mono ?_; rintro e w3 ⟨rfl, hG3⟩)
        go_roundw
        case rel => exact ⟨k + 1, v, by omega, by go_num, ⟨bf.keep hG3, by rw [HS4.out]; exact own_G HO.out hG3⟩, gw.t hG3⟩
        case measure => simp [intOf] <;> omega
      · rw [hv] at HI3
        have HS4 := Lib.hid (show RS (k + 1) = RS k ++ [⟨zbird, zowner, zrank, zday, zpa, zpc, zpools⟩] by have := HSU3.out; rw [hv] at this; simpa using this)
        clear hv HSU3
        obtain ⟨T, hT⟩ : ∃ T, T = RS k := ⟨_, rfl⟩
        rw [← hT] at HO HS4 HL3
        clear hT
        have hTl : T.length ≤ 12 := Nat.le_trans HL3.out h12
        obtain ⟨i0, hi0, hz0, hz1, hz2⟩ := info_parts info60
        go_wp2_with (first | (go_at_call 76; refine (HI3.out _ (g0.t gw)).mono ?_; rintro e w3 ⟨rfl, hG3⟩; clear n4 ln; replace bf := bf.keep hG3; replace bx := bx.keep hG3; replace gw := gw.t hG3; have HO3 := Lib.hid (own_G HO.out hG3); have n0 := bx.cell 0; have n1 := bx.cell 1; have n2 := bx.cell 2; have n3 := bx.cell 3; have n4 := bx.cell 4; have ln := bx.lt; have f6 := bf.cell 6; have lf := bf.lt; have HLF := Lib.hid lf) | (at_builtin; refine wpList_append_own _ rfl _ _ 22 rfl (w.heap.size + 1 + 1 + 1) 60 i0 (.agg #[.int .i64 0, .int .i64 0, .int .i64 0, .int .i64 0, .slice none 0 0]) 5 56 Tryz.underlying22 hi0 hz0 hz1 hz2 rfl (by decide) _ T.length (rcV T) rfl ?hown ⟨_, 0, none⟩ 1 1 [.int .i64 zbird, .int .i64 zowner, .int .i64 zrank, .int .i64 zday, .slice zpa zpools.length zpc] rfl rfl (cell_new5 _ _ _) (by simp [Value.oneCell']) (by unfold maxLen; omega) (by omega) ?hbase ?hrest))
        case hown => exact own_G HO3.out ((G.rf _).a _)
        case hbase => have := HLF.out; simp only [World.alloc, Array.size_push]; omega
        case hrest =>
          intro v9 w9 hown9 hg9 _
          obtain ⟨va, vc, rfl⟩ := own_slice hown9
          have ho3 := own_G HO3.out ((G.rf w3).a (.cells #[.int .i64 zbird, .int .i64 zowner, .int .i64 zrank, .int .i64 zday, .slice zpa zpools.length zpc] 60))
          have bf3 := bf.alloc (.cells #[.int .i64 zbird, .int .i64 zowner, .int .i64 zrank, .int .i64 zday, .slice zpa zpools.length zpc] 60)
          have bf9 := bf3.grown hg9 (own_ne ho3 bf3 (by decide))
          have g9 : G W1 w9 := grow_own (gw.a _) ho3 (by omega) hg9
          clear ho3 bf3
          have HN := Lib.hid hown9
          have HB9 := Lib.hid bf9
          clear hown9 hg9 n0 n1 n2 n3 n4 ln f6 lf
          have f6 := bf9.cell 6
          have lf := bf9.lt
          have fz := bf9.frozen 6
          clear bf9
          go_wp2
          go_roundw
          case rel => exact ⟨k + 1, .slice va (T.length + 1) vc, by omega, by go_num, ⟨by
            have b := HB9.out.set_ 6 (.slice va (T.length + 1) vc)
            simp only [List.setIfInBounds_toArray, List.set_cons_zero, List.set_cons_succ] at b
            exact b, by
            rw [HS4.out, List.length_append, rcV_snoc]
            exact HN.out.kept (grownBy_set _ _ _) (.inr (own_ne HN.out HB9.out (by decide)).symm)⟩, g9.s (p := ⟨w.heap.size + 1 + 1, 6, none⟩) (Nat.le_of_eq hs1) _⟩
          case measure => simp [intOf] <;> omega
    · obtain rfl : k = racers.length := by omega
      have hki : ¬ ((racers.length : Nat) : Int) < racers.length := by omega
      obtain ⟨va, vc, rfl⟩ := own_slice HB.out.2
      have f6 := HB.out.1.cell 6
      have lf := HB.out.1.lt
      go_upto_region 9 with (go_at_call 77; refine (HSO.out _ _ _ HB.out.2).mono ?_; rintro e w3 ⟨rfl, hown3, hg3⟩)
      have b3 := HB.out.1.grown hg3 (own_ne HB.out.2 HB.out.1 (by decide))
      have g3 : G W1 w3 := grow_own hG HB.out.2 (by omega) hg3
      have br := b1.keep g3
      clear f6 lf HB hg3
      refine wp_region_lit ?_
      refine wpList_load85 (w.heap.size + 1 + 1) (.tmp 5) (REL := #[.int .i64 ystake, .int .i64 ycut, .int .i64 ykind, .slice yta ytable.length ytc, .int .i64 yquota, .bool yfirst, .slice va (RS racers.length).length vc, .slice ta protests.length tc]) ⟨_, _, _, _, _, _, _, _, _, _, _, _, _, _, rfl⟩ rfl rfl rfl b3 ?_
      try simp only [Act.put, List.getElem_toArray, List.getElem_cons_zero, List.getElem_cons_succ, List.setIfInBounds_toArray, List.set_cons_zero, List.set_cons_succ]
      refine wpList_store85 (w.heap.size + 1) (.tmp 4) (.tmp 37) (OLD := #[.int .i64 0, .int .i64 0, .int .i64 0, .slice none 0 0, .int .i64 0, .bool false, .slice none 0 0, .slice none 0 0]) (NEW := #[.int .i64 ystake, .int .i64 ycut, .int .i64 ykind, .slice yta ytable.length ytc, .int .i64 yquota, .bool yfirst, .slice va (RS racers.length).length vc, .slice ta protests.length tc]) ⟨_, _, _, _, _, _, _, _, _, _, _, _, _, _, rfl⟩ ⟨_, _, _, _, _, _, _, _, _, _, _, _, _, _, rfl⟩ rfl rfl rfl rfl br (fun W4 hb4 hF4 hG4 => ?_)
      try simp only [Act.put, List.getElem_toArray, List.getElem_cons_zero, List.getElem_cons_succ, List.setIfInBounds_toArray, List.set_cons_zero, List.set_cons_succ]
      have g4 : G w W4 := hG4 w (by omega) (g0.t g3)
      have h4 := own_away hown3 hF4 (own_ne hown3 br (by decide))
      have HF := Lib.hid (HPP.out W4 va vc (own_weaken h4 (by omega)) g4)
      have HE := Lib.hid (show (Fu.v ⟨⟨ystake, ycut, ykind, yta, ytc, ytable, yquota, yfirst⟩, va, vc, srt (RS racers.length), ta, tc, protests⟩) = #[.int .i64 ystake, .int .i64 ycut, .int .i64 ykind, .slice yta ytable.length ytc, .int .i64 yquota, .bool yfirst, .slice va (RS racers.length).length vc, .slice ta protests.length tc] by unfold Fu.v; rw [srt_len])
      clear hF4 hG4 hown3 h4 g4 b3 br hki
      go_wp2_with fail
      try simp only [Exit.inBlock, Exit.then]
      refine bodyPost_ret (res53 _ _ (w.heap.size + 1) (REL := #[.int .i64 ystake, .int .i64 ycut, .int .i64 ykind, .slice yta ytable.length ytc, .int .i64 yquota, .bool yfirst, .slice va (RS racers.length).length vc, .slice ta protests.length tc]) ⟨_, _, _, _, _, _, _, _, _, _, _, _, _, _, rfl⟩ rfl hb4) rfl ?_
      rw [← HE.out]
      exact HF.out
end Go.Proofs.YtnkmcoljijmgpaaGreat

set_option linter.unusedSimpArgs false
set_option linter.unusedVariables false
namespace Go.Proofs.YtnkmcoljijmgpaaGreat
open Go.RowKit Go.Shelf
attribute [local go_sem] Oper.semAt_some
theorem eql22 (w : World) (a : Option Addr) (n c n' c' : Nat) : (binOp .eql 22 (.slice a n c) (.slice none n' c')).run Tryz.prog w = .ok (.bool a.isNone) w := Lib.run_eql_slice_nil w 22 60 a n c n' c' Tryz.underlying22
attribute [local go_sem] eql22
theorem add_off (g off j : Nat) : (⟨g, off, none⟩ : Addr).add j = ⟨g, off + j, none⟩ := by
  unfold Addr.add
  by_cases h : j = 0
  · subst h; simp
  · simp [h]
theorem rcV_one (l : List Rc) : ∀ u ∈ rcV l, u.oneCell' = true := by
  intro u hu
  simp only [rcV, List.mem_flatMap] at hu
  obtain ⟨x, _, hx⟩ := hu
  simp [rcE, Rc.v] at hx
  rcases hx with rfl | rfl | rfl | rfl | rfl <;> rfl
theorem row_cells {W : World} {g off : Nat} {l : List Rc} (h : ∀ i, i < l.length → ∀ r, r < 5 → W.cell? ⟨g, off + i * 5 + r, none⟩ = (Rc.v (l.getD i default))[r]?) : ∀ j u, (rcV l)[j]? = some u → W.cell? ((⟨g, off, none⟩ : Addr).add j) = some u := by
  intro j u hu
  rw [add_off]
  have hj : j < l.length * 5 := by
    have := (List.getElem?_eq_some_iff.1 hu).1
    rw [rcV_len] at this
    exact this
  have e := rcV_get l (i := j / 5) (r := j % 5) (by omega) (by omega)
  rw [show j / 5 * 5 + j % 5 = j by omega, hu] at e
  have h2 := h (j / 5) (by omega) (j % 5) (by omega)
  rw [show off + j / 5 * 5 + j % 5 = off + j by omega] at h2
  rw [h2, e]
  simp [rcE]
theorem own_row {W : World} {B : Nat} {v : Value} {l : List Rc} (h : W.ownsRow B 60 5 v l.length (rcV l)) : ∃ a c, v = .slice a l.length c ∧ RowE Rc.v 5 W a l := by
  rcases h.2 with ⟨rfl, h0⟩ | ⟨g, cap, cur, rfl, hb, hg, h1, h2, h3, h4⟩
  · exact ⟨none, 0, by rw [h0], .inl h0⟩
  · refine ⟨_, _, rfl, .inr ⟨g, 0, rfl, (Array.getElem?_eq_some_iff.1 hg).1, fun i hi r hr => ?_⟩⟩
    have e := rcV_get l hi hr
    have hB : Blk W g 60 cur := hg
    have hlt : i * 5 + r < l.length * 5 := by omega
    rw [show 0 + i * 5 + r = i * 5 + r by omega, hB.cell, ← Array.getElem?_toList]
    have h5 : (cur.toList.take (l.length * 5))[i * 5 + r]? = (rcV l)[i * 5 + r]? := by rw [h4]
    rw [List.getElem?_take_of_lt hlt] at h5
    rw [h5, e]
    simp [rcE]
def RcPost (w : World) (l : List Rc) (e : Ending) (w' : World) : Prop := ∃ v, e = .returned v ∧ w'.ownsRow w.heap.size 60 5 v l.length (rcV l) ∧ G w w'
set_option maxRecDepth 100000 in
set_option maxHeartbeats 4000000 in
/-- slices.Clone -/
theorem clone_any (l : List Rc) (a : Option Addr) (cap : Nat) (w : World) (h : RowE Rc.v 5 w a l) (hl : l.length ≤ 1000) (hn : a ≠ none ∨ l = []) : Calls Tryz.prog 106 #[.slice a l.length cap] w (RcPost w l) := by
  have HP : Hid (∀ w' v, w'.ownsRow w.heap.size 60 5 v l.length (rcV l) → G w w' → RcPost w l (.returned v) w') := fun w' v a b => ⟨v, rfl, a, b⟩
  generalize RcPost w l = PP at *
  cases a with
  | none =>
    have hl0 : l = [] := hn.resolve_left (fun h => h rfl)
    subst hl0
    have HF := Lib.hid (HP.out w (.slice none 0 0) (World.ownsRow_nil _ _ _ _) (G.rf _))
    clear HP
    change Calls Tryz.prog 106 #[.slice none 0 cap] w PP
    go_enter Tryz.func106, Tryz.ntmps106
    go_wp2_with fail
    exact HF.out
  | some ad =>
    have hc : l = [] ∨ (∀ j u, (rcV l)[j]? = some u → w.cell? (ad.add j) = some u) := by
      rcases h with h | ⟨g, off, he, hg, hcell⟩
      · exact .inl (List.length_eq_zero_iff.1 h)
      · obtain rfl : ad = ⟨g, off, none⟩ := by simpa using he
        exact .inr (row_cells hcell)
    have hcell : ∀ j u, (rcV l)[j]? = some u → w.cell? (ad.add j) = some u := by
      rcases hc with rfl | hc
      · intro j u hu; simp [rcV] at hu
      · exact hc
    have HC := Lib.hid hcell
    have HO := Lib.hid (rcV_one l)
    have HL := Lib.hid (rcV_len l)
    clear hc h hn hcell
    obtain ⟨i0, hi0, hz0, hz1, hz2⟩ := info_parts info60
    go_enter Tryz.func106, Tryz.ntmps106
    go_wp2_with (at_builtin; refine wpList_append_own _ rfl _ _ 22 rfl w.heap.size 60 i0 (.agg #[.int .i64 0, .int .i64 0, .int .i64 0, .int .i64 0, .slice none 0 0]) 5 56 Tryz.underlying22 hi0 hz0 hz1 hz2 rfl (by decide) _ 0 [] rfl ?hown ad l.length cap (rcV l) rfl HL.out ?hnew HO.out (by unfold maxLen; omega) (by omega) ?hbase ?hrest)
    case hown => exact own_empty (Blk.new w 60 #[]) 5
    case hnew => exact fun j u hj => Lib.cell?_alloc_some _ (HC.out j u hj)
    case hbase => have := ((G.rf w).a (.cells #[] 60)).size; exact this
    case hrest =>
      intro v9 w9 hown9 hg9 _
      have gz : G w w9 := grow_own ((G.rf w).a (.cells #[] 60)) (own_empty (Blk.new w 60 #[]) 5) (Nat.le_refl _) hg9
      try rw [Nat.zero_add, List.nil_append] at hown9
      have HF := Lib.hid (HP.out w9 v9 hown9 gz)
      clear hown9 hg9 gz HP
      go_wp2
      exact HF.out
end Go.Proofs.YtnkmcoljijmgpaaGreat

