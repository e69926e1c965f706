import Derived.Below
import Derived.BigQuiet
import Derived.Deep.AppendLies
import Derived.Deep.Draws
import Derived.Deep.QuietTactic
import Derived.Deep.RegionHeld
import Derived.Deep.Slices
import Derived.Ground.Names2Prog
import Derived.Ground.SlsfProg
import Derived.Ground.SlsoProg
import Derived.IntWalk
import Derived.Laws.AppendOwn
import Derived.Laws.AppendOwnNone
import Derived.Laws.OwnMore
import Derived.Laws.Rows
import Derived.Laws.StructEq
import Derived.Lib.Hide
import Derived.Lib.SlKeysI
import Derived.Lib.SmallJoins
import Derived.LoopIn
import Derived.LoopNIn
import Derived.OpenShut
import Derived.OrdersHeld
import Derived.OrdersIn
import Derived.Outline
import Derived.OwnWalkIn
import Derived.ProofKit
import Derived.RangeFuncBound
import Derived.RangeFuncCalls
import Derived.RangeFuncLeaves
import Derived.RangeFuncNested
import Derived.Shelf.Abstract
import Derived.Shelf.GgSortFunc.InsertionK
import Derived.Shelf.RegionOpen
import Derived.Shelf.SlSortCmp.NoneTotal
import Derived.Shelf.SlSortCmp.WholeK
import Derived.Shelf.SlSorted.Search
import Derived.Shelf.Slices.Cells
import Derived.Shelf.Slices.CompactI
import Derived.Shelf.Slices.In.SortNone
import Derived.Shelf.Slices.SearchI
import Derived.Shelf.Small.Bits
import Derived.Shelf.Sort.Plain
import Derived.Shelf.Strconv.Itoa0
import Derived.Sort.Grow
import Derived.TacticsIn
import Derived.TacticsInMore
import Derived.Test.YtabnpimidhlbiaaGreatProg
import Derived.WalkKit
import Derived.WalkSpells
namespace Go.Proofs.YtabnpimidhlbiaaGreat
theorem zzA {α : Type _} {xs : List α} {i : Nat} (h : i < xs.toArray.size) : xs.toArray[i] = xs[i]'(by simpa using h) := rfl
theorem zzB {α : Type _} (a : α) (l : List α) (h : 0 < (a :: l).length) : (a :: l)[0]'h = a := rfl
theorem zzC {α : Type _} (a : α) (l : List α) (i : Nat) (h : i + 1 < (a :: l).length) : (a :: l)[i + 1]'h = l[i]'(Nat.lt_of_succ_lt_succ h) := rfl
theorem zzD {α : Type _} (l : List α) (i : Nat) (a : α) : l.toArray.setIfInBounds i a = (l.set i a).toArray := List.setIfInBounds_toArray l i a
theorem zzE {α : Type _} {x a : α} {xs : List α} : (x :: xs).set 0 a = a :: xs := rfl
theorem zzF {α : Type _} {x a : α} {xs : List α} {n : Nat} : (x :: xs).set (n + 1) a = x :: xs.set n a := rfl
end Go.Proofs.YtabnpimidhlbiaaGreat

set_option linter.unusedSimpArgs false
set_option linter.unusedVariables false
namespace Go.Proofs.YtabnpimidhlbiaaGreat
open Go.RowKit

def isInB (n lo hi : Int) : Bool := decide (lo ≤ n) && decide (n ≤ hi)
def IntsAt (w : World) (a : Option Addr) (l : List Int) : Prop := l = [] ∨ ∃ b off, a = some ⟨b, off, none⟩ ∧ b < w.heap.size ∧ ∀ k, k < l.length → w.cell? ⟨b, off + k, none⟩ = some (.int .i64 (l.getD k 0))

theorem bcellB {B : Nat} {W w1 : World} (hb : Below B W w1) : (∀ b o, b < B → w1.cell? ⟨b, o, none⟩ = W.cell? ⟨b, o, none⟩) ∧ (∀ b o, b < B → w1.frozen? ⟨b, o, none⟩ = W.frozen? ⟨b, o, none⟩) :=
  ⟨fun b o h => hb.cell (p := ⟨b, o, none⟩) h, fun b o h => hb.frozen (p := ⟨b, o, none⟩) h⟩

theorem IntsAt.below {w w' : World} {a : Option Addr} {l : List Int} (h : IntsAt w a l) (hb : Below w.heap.size w w') : IntsAt w' a l := by
  rcases h with rfl | ⟨b, off, rfl, hlt, hc⟩
  · exact .inl rfl
  · exact .inr ⟨b, off, rfl, Nat.lt_of_lt_of_le hlt hb.size, fun k hk => (hb.cell (p := ⟨b, off + k, none⟩) hlt).trans (hc k hk)⟩

abbrev G (w w' : World) : Prop := Below w.heap.size w w'
theorem G.rf (w : World) : G w w := Below.refl _ _
theorem G.t {a b c : World} (h : G a b) (k : G b c) : G a c := h.trans (k.mono h.size)
theorem G.a {a b : World} (h : G a b) (o : Obj) : G a (b.alloc o) := Below.alloc h h.size o
theorem G.d {a b : World} (h : G a b) : G a b.drew := ⟨h.os, h.tape, h.output, h.size, h.block⟩
theorem G.s {a b : World} (h : G a b) {p : Addr} (hp : a.heap.size ≤ p.block) (v : Value) : G a (b.setCell p v) := Below.setCell h hp v

end Go.Proofs.YtabnpimidhlbiaaGreat
set_option linter.unusedSimpArgs false
set_option linter.unusedVariables false
namespace Go.Proofs.YtabnpimidhlbiaaGreat
open Go.RowKit
def Blk (w : World) (g : Nat) (t : TypeId) (cs : Array Value) : Prop := w.heap[g]? = some (.cells cs t (0, 0))
section
variable {w w' : World} {g : Nat} {t : TypeId} {cs : Array Value}
theorem Blk.lt (h : Blk w g t cs) : g < w.heap.size := by
  rcases Nat.lt_or_ge g w.heap.size with hlt | hge
  · exact hlt
  · unfold Blk at h; rw [Array.getElem?_eq_none hge] at h; cases h
theorem Blk.cell (h : Blk w g t cs) (i : Nat) : w.cell? ⟨g, i, none⟩ = cs[i]? := cell_of_row w g i cs t (0, 0) h
theorem Blk.frozen (h : Blk w g t cs) (i : Nat) : w.frozen? ⟨g, i, none⟩ = false := by
  unfold Blk at h
  simp [World.frozen?, h]
theorem Blk.new (w : World) (t : TypeId) (cs : Array Value) : Blk (w.alloc (.cells cs t)) w.heap.size t cs := heap_alloc_new w _
theorem Blk.new1 (w : World) (o : Obj) (t : TypeId) (cs : Array Value) : Blk ((w.alloc o).alloc (.cells cs t)) (w.heap.size + 1) t cs := by
  have := Blk.new (w.alloc o) t cs
  rwa [World.size_alloc] at this
theorem Blk.new2 (w : World) (o o' : Obj) (t : TypeId) (cs : Array Value) : Blk (((w.alloc o).alloc o').alloc (.cells cs t)) (w.heap.size + 1 + 1) t cs := by
  have := Blk.new ((w.alloc o).alloc o') t cs
  rwa [World.size_alloc, World.size_alloc] at this
theorem Blk.drewN (h : Blk w g t cs) (n : Nat) : Blk (w.drewN n) g t cs := h
theorem Blk.alloc (h : Blk w g t cs) (o : Obj) : Blk (w.alloc o) g t cs := (Below.heap_alloc w o g h.lt).trans h
theorem Blk.set_ (h : Blk w g t cs) (i : Nat) (u : Value) : Blk (w.setCell ⟨g, i, none⟩ u) g t (cs.setIfInBounds i u) := by
  unfold Blk at h ⊢
  simp [World.setCell, Array.getElem?_modify, h]
theorem Blk.far (h : Blk w g t cs) {p : Addr} (hp : g ≠ p.block) (u : Value) : Blk (w.setCell p u) g t cs := (Below.heap_setCell w p u g hp).trans h
theorem Blk.below {B : Nat} (h : Blk w g t cs) (hb : Below B w w') (hg : g < B) : Blk w' g t cs := (hb.block g hg).trans h
theorem Blk.keep (h : Blk w g t cs) (hb : G w w') : Blk w' g t cs := h.below hb h.lt
theorem Blk.grown {row : Option Nat} (h : Blk w g t cs) (hb : w.grownBy w' row) (hg : some g ≠ row) : Blk w' g t cs := (hb.block g h.lt hg).trans h
end
end Go.Proofs.YtabnpimidhlbiaaGreat
set_option linter.unusedSimpArgs false
set_option linter.unusedVariables false
namespace Go.Proofs.YtabnpimidhlbiaaGreat
open Go.RowKit

def isPlaceB (cols : Int) (rows : Nat) (x y : Int) : Bool := isInB x 0 (cols - 1) && isInB y 0 (rows - 1)

theorem and4 (a b c : Bool) : a = false ∨ (a = true ∧ b = false) ∨ (a = true ∧ b = true ∧ c = false) ∨ (a = true ∧ b = true ∧ c = true) := by
  cases a <;> cases b <;> cases c <;> simp

section
variable (north cols lofts wrong loft kind xl xh yl yh ax ay dl dh : Int) (ea : Option Addr) (el ec : Nat) (s : Value) (w : World)
end

end Go.Proofs.YtabnpimidhlbiaaGreat
set_option linter.unusedSimpArgs false
set_option linter.unusedVariables false
namespace Go.Proofs.YtabnpimidhlbiaaGreat
open Go.RowKit

structure Sv where
  loft : Int
  kind : Int
  xl : Int
  xh : Int
  yl : Int
  yh : Int
  ax : Int
  ay : Int
  dl : Int
  dh : Int
instance : Inhabited Sv := ⟨⟨0, 0, 0, 0, 0, 0, 0, 0, 0, 0⟩⟩

def SvCells (w : World) (b o : Nat) (s : Sv) : Prop :=
  w.cell? ⟨b, o, none⟩ = some (.int .i64 s.loft) ∧ w.cell? ⟨b, o + 1, none⟩ = some (.int .i64 s.kind) ∧ w.cell? ⟨b, o + 2, none⟩ = some (.int .i64 s.xl) ∧ w.cell? ⟨b, o + 3, none⟩ = some (.int .i64 s.xh) ∧
  w.cell? ⟨b, o + 4, none⟩ = some (.int .i64 s.yl) ∧ w.cell? ⟨b, o + 5, none⟩ = some (.int .i64 s.yh) ∧ w.cell? ⟨b, o + 6, none⟩ = some (.int .i64 s.ax) ∧ w.cell? ⟨b, o + 7, none⟩ = some (.int .i64 s.ay) ∧
  w.cell? ⟨b, o + 8, none⟩ = some (.int .i64 s.dl) ∧ w.cell? ⟨b, o + 9, none⟩ = some (.int .i64 s.dh)

def SvsAt (w : World) (a : Option Addr) (l : List Sv) : Prop := l = [] ∨ ∃ b off, a = some ⟨b, off, none⟩ ∧ b < w.heap.size ∧ ∀ k, k < l.length → SvCells w b (off + k * 10) (l.getD k default)

end Go.Proofs.YtabnpimidhlbiaaGreat
set_option linter.unusedSimpArgs false
set_option linter.unusedVariables false
namespace Go.Proofs.YtabnpimidhlbiaaGreat
open Go.RowKit

end Go.Proofs.YtabnpimidhlbiaaGreat
set_option linter.unusedSimpArgs false
set_option linter.unusedVariables false
namespace Go.Proofs.YtabnpimidhlbiaaGreat
end Go.Proofs.YtabnpimidhlbiaaGreat
namespace Go.Proofs
open Go.Shelf
end Go.Proofs
set_option linter.unusedSimpArgs false
set_option linter.unusedVariables false
namespace Go.Proofs.YtabnpimidhlbiaaGreat
open Go.RowKit Go.Lib Go.Sort Go.Shelf

end Go.Proofs.YtabnpimidhlbiaaGreat
set_option linter.unusedSimpArgs false
set_option linter.unusedVariables false
namespace Go.Proofs.YtabnpimidhlbiaaGreat
open Go.RowKit

end Go.Proofs.YtabnpimidhlbiaaGreat
set_option linter.unusedSimpArgs false
set_option linter.unusedVariables false
namespace Go.Proofs.YtabnpimidhlbiaaGreat
open Go.RowKit

section
variable {north cols lofts wrong ax ay bx bY : Int} {east : List Int} {svs : List Sv} {ea sa : Option Addr} {ec sc : Nat} {w : World}

end
end Go.Proofs.YtabnpimidhlbiaaGreat
set_option linter.unusedSimpArgs false
set_option linter.unusedVariables false
namespace Go.Proofs.YtabnpimidhlbiaaGreat
open Go.RowKit
/-- A world that has grown out of W0: the class for regions that draw their order, whose calls make memory. -/
structure GW (W0 : World) where
  w : World
  g : G W0 w
instance (W0 : World) : Nonempty (GW W0) := ⟨⟨W0, G.rf W0⟩⟩
theorem wp_region_quiet_G {P : Program} {id : Nat} {Q : Exit → Act → World → Prop} {a : Act} {W0 : World} {l : List Oper} (hm : P.follows .mixedOrders = true) (hB : Region.lexB .any l.toArray = true)
    (h : wpQuiet P l.toArray (fun w' => ∃ x : GW W0, w' = x.w) (fun a' => ∀ w', (∃ x : GW W0, w' = x.w) → Q .normal a' w') l a) : (Code.region id l.toArray true).wp P Q a W0 :=
  wp_region_quiet (C := fun w' => ∃ x : GW W0, w' = x.w) hm hB ⟨⟨_, (G.rf W0).d⟩, rfl⟩ (by simpa using h)
theorem Calls.gq {P : Program} {f : FuncId} {args : Array Value} {W0 : World} {x : GW W0} {v : Value}
    (h : Calls P f args x.w fun e w' => e = .returned v ∧ G x.w w') : Calls P f args x.w fun e w'' => e = .returned v ∧ ∃ y : GW W0, w'' = y.w :=
  h.mono fun _ w' ⟨he, hg⟩ => ⟨he, ⟨w', x.g.t hg⟩, rfl⟩
theorem GW.cell {W0 : World} {b o : Nat} {v : Value} (h : W0.cell? ⟨b, o, none⟩ = some v) (hb : b < W0.heap.size) : ∀ x : GW W0, x.w.cell? ⟨b, o, none⟩ = some v := fun x => ((bcellB x.g).1 b o hb).trans h
theorem Blk.gw {W0 : World} {g : Nat} {t : TypeId} {cs : Array Value} (h : Blk W0 g t cs) (i : Nat) {v : Value} (hv : cs[i]? = some v) : ∀ x : GW W0, x.w.cell? ⟨g, i, none⟩ = some v := fun x => ((h.keep x.g).cell i).trans hv

end Go.Proofs.YtabnpimidhlbiaaGreat
set_option linter.unusedSimpArgs false
set_option linter.unusedVariables false
namespace Go.Proofs.YtabnpimidhlbiaaGreat
open Go.RowKit

end Go.Proofs.YtabnpimidhlbiaaGreat

set_option linter.unusedSimpArgs false
set_option linter.unusedVariables false
namespace Go.Proofs.YtabnpimidhlbiaaGreat
open Go.RowKit Go.Shelf
attribute [local go_sem] Oper.semAt_some

def ptV (p : Nat × Nat) : Value := .agg #[.int .i64 p.1, .int .i64 p.2]

/-- what an iterator asks that a round keeps: its own box -/
def KB (B : Nat) (A W : World) : Prop := W.heap[B]? = A.heap[B]?
theorem KB.rf (B : Nat) (A : World) : KB B A A := rfl
theorem KB.t {B : Nat} {A C D : World} (h : KB B A C) (k : KB B C D) : KB B A D := Eq.trans k h
theorem KB.b {B : Nat} {w : World} (hB : B < w.heap.size) (W : World) (l : Nat) (o o' : Obj) (hl : w.heap.size ≤ l) (_ : W.heap[l]? = some o) (_ : o.isCells = false) (_ : o.isWalk = false) : KB B W (W.putObj l o') :=
  World.putObj_heap_other (by omega)
/-- a place of a map -/
abbrev Pl (cols rows : Nat) := { p : Nat × Nat // p.1 < cols ∧ p.2 < rows }
end Go.Proofs.YtabnpimidhlbiaaGreat
set_option linter.unusedSimpArgs false
set_option linter.unusedVariables false
namespace Go.Proofs.YtabnpimidhlbiaaGreat
open Go.RowKit

/-- the wide fence, in a round or not -/
abbrev WR (l : Option Nat) : Fence := { Fence.wide with round := l }

section
variable {P : Program} {ops : Array Oper} {md : Region.Mode} {l : Option Nat} {n : Nat} {Q : Exit → Act → World → Prop}
end
end Go.Proofs.YtabnpimidhlbiaaGreat
set_option linter.unusedSimpArgs false
set_option linter.unusedVariables false
namespace Go.Proofs.YtabnpimidhlbiaaGreat
open Go.RowKit Go.Shelf

/-- what lay in W lies in W', but for the blocks of R -/
structure Fr (R : Nat → Prop) (W W' : World) : Prop where
  os : W'.os = W.os
  tape : W'.tape = W.tape
  output : W'.output = W.output
  size : W.heap.size ≤ W'.heap.size
  block : ∀ i, i < W.heap.size → ¬ R i → W'.heap[i]? = W.heap[i]?
section
variable {R : Nat → Prop} {A B C : World}
theorem Fr.rf (R : Nat → Prop) (A : World) : Fr R A A := ⟨rfl, rfl, rfl, Nat.le_refl _, fun _ _ _ => rfl⟩
theorem Fr.t (h : Fr R A B) (k : Fr R B C) : Fr R A C := ⟨k.os.trans h.os, k.tape.trans h.tape, k.output.trans h.output, Nat.le_trans h.size k.size, fun i hi hr => (k.block i (Nat.lt_of_lt_of_le hi h.size) hr).trans (h.block i hi hr)⟩
theorem G.fr (h : G A B) : Fr R A B := ⟨h.os, h.tape, h.output, h.size, fun i hi _ => h.block i hi⟩
theorem Fr.a (h : Fr R A B) (o : Obj) : Fr R A (B.alloc o) := h.t (G.fr ((G.rf B).a o))
theorem Fr.g (h : Fr R A B) (k : G B C) : Fr R A C := h.t k.fr
theorem Fr.d (h : Fr R A B) : Fr R A B.drew := h.t (G.fr ((G.rf B).d))
theorem Fr.s (h : Fr R A B) {p : Addr} (hp : R p.block ∨ A.heap.size ≤ p.block) (v : Value) : Fr R A (B.setCell p v) :=
  ⟨h.os, h.tape, h.output, by have := h.size; simpa [World.setCell] using this, fun i hi hr => (Below.heap_setCell B p v i (by
    rintro rfl
    rcases hp with hp | hp
    · exact hr hp
    · omega)).trans (h.block i hi hr)⟩
theorem Fr.grown (h : Fr R A B) {row : Option Nat} (hg : B.grownBy C row) (hr : ∀ g, row = some g → R g ∨ A.heap.size ≤ g) : Fr R A C :=
  ⟨hg.os.trans h.os, hg.tape.trans h.tape, hg.output.trans h.output, Nat.le_trans h.size hg.size, fun i hi hn => (hg.block i (Nat.lt_of_lt_of_le hi h.size) (fun e => by
    rcases hr i e.symm with h' | h'
    · exact hn h'
    · omega)).trans (h.block i hi hn)⟩
theorem Fr.toG (h : Fr R A B) (hr : ∀ i, i < A.heap.size → ¬ R i) : G A B := ⟨h.os, h.tape, h.output, h.size, fun i hi => h.block i hi (hr i hi)⟩
theorem Fr.blk {g : Nat} {t : TypeId} {cs : Array Value} (h : Fr R A B) (k : Blk A g t cs) (hg : ¬ R g) : Blk B g t cs := (h.block g k.lt hg).trans k
theorem Fr.kb {b : Nat} (h : Fr R A B) (hb : b < A.heap.size) (hr : ¬ R b) : KB b A B := h.block b hb hr
theorem Fr.keeps (h : Fr R A B) (hr : ∀ i, R i → i < A.heap.size → ∃ c t f, A.heap[i]? = some (.cells c t f)) (b : Nat) : KeepsFrom b A B :=
  ⟨h.size, fun k o _ hk ho => by
    have hlt := (Array.getElem?_eq_some_iff.1 hk).1
    rw [h.block k hlt (fun hR => by
      obtain ⟨c, t, f, e⟩ := hr k hR hlt
      rw [e] at hk; cases hk; cases ho)]
    exact hk⟩
end

theorem blk_own {β : Type} (g : Nat) (t : TypeId) (f : β → Array Value) : Own (fun s W => Blk W g t (f s)) := fun _ X _ row hs hg hrow =>
  hs.grown hg (fun e' => by obtain ⟨o, ho, hc⟩ := hrow g e'.symm; rw [show X.heap[g]? = _ from hs] at ho; cases ho; cases hc)

variable {F : Fence} {n : Nat} {P : Program}
/-- a range over a function whose one loop variable is boxed: slot tb holds the box's address -/
theorem rangeFunc_box {α : Type} {g : Operand} {tv : Tmp} {assign body : Code} {Q : Exit → Act → World → Prop} {a : Act} {w : World}
    (hro : F.round = none) (h1 : 1 ≤ n) {gf : Nat} {lb : Array Value} (hg : a.eval g = .func (.func gf) #[] lb) (hFg : F.fn gf) (eg : ∀ args w, (callFunc gf args).run P w = .ok (.enter gf args) w)
    {ev : α → Value} {B : Nat} {S Sp : List α → Prop} {N : Nat} {w0 : World} (hseq : SeqStopsK F (n - 1) P gf lb (fun x => #[ev x]) (KB B) S Sp N w0)
    (hB : B < w.heap.size) (hb0 : Below w0.heap.size w0 w)
    (I : List α → World → Prop) (Ix : Code → List α → World → Prop) (hI : OwnFrom w.heap.size I) (hIx : ∀ c, OwnFrom w.heap.size (Ix c)) (hIs : ∀ pre W, I pre W → w.heap.size ≤ W.heap.size) (h0 : I [] w)
    (tb : Tmp) (tt : TypeId) (bx : α → Array Value)
    (hassign : ∀ (l : Nat) (x : α) (W : World) (K : Act → World → Prop), K { tmps := (a.tmps.setIfInBounds tv (ev x)).setIfInBounds tb (.pointer (some ⟨W.heap.size, 0, none⟩)), defers := [] } (W.alloc (.cells (bx x) tt)) →
      assign.wpIn (F.inRound l) (n - 1 - 1) P (Exit.then K (fun _ _ _ => False)) { tmps := a.tmps.setIfInBounds tv (ev x), defers := [] } W)
    (hbody : ∀ (l : Nat) (pre : List α) (x : α) (Bp : Nat) (W : World), w.heap.size ≤ l → (∃ r, W.heap[l]? = some (.loop r)) → I pre W → w.heap.size ≤ Bp → Blk W Bp tt (bx x) → pre.length < N →
      body.wpIn (F.inRound l) (n - 1 - 1) P (ownPostG w.heap.size (KB B) I Ix (pre ++ [x]) W) { tmps := (a.tmps.setIfInBounds tv (ev x)).setIfInBounds tb (.pointer (some ⟨Bp, 0, none⟩)), defers := [] } W)
    (hdone : ∀ (D : Nat) (xs : List α) (W : World), w.heap.size ≤ D → S xs → I xs W → W.heap[D]? = some (.deferred (some [])) → Q .normal { a with defers := { target := .collected D, args := #[] } :: a.defers } W)
    (hstop : ∀ (D : Nat) (c : Code) (pre : List α) (W : World), w.heap.size ≤ D → Sp pre → Ix c pre W → W.heap[D]? = some (.deferred (some [])) → c.wpIn F n P Q { a with defers := { target := .collected D, args := #[] } :: a.defers } W) :
    (Code.rangeFunc g #[tv] assign body).wpIn F n P Q a w := by
  refine wpIn_rangeFunc_ownH hro h1 hg hFg eg hseq (fun h k => KB.t h k) (KB.b hB) hb0 (fun _ => rfl) I Ix hI hIx h0
    (fun x a' W => ∃ Bp, w.heap.size ≤ Bp ∧ Blk W Bp tt (bx x) ∧ a' = { tmps := (a.tmps.setIfInBounds tv (ev x)).setIfInBounds tb (.pointer (some ⟨Bp, 0, none⟩)), defers := [] })
    ?_ ?_ ?_ hdone hstop
  · rintro x a' _ X Y row ⟨Bp, h1, h2, h3⟩ hg' hr
    exact ⟨Bp, h1, blk_own Bp tt (fun _ : Unit => bx x) () X Y row h2 hg' (fun r e => (hr r e).2), h3⟩
  · intro l pre x W K hi hK
    have e : ((#[tv] : Array Tmp).zip #[ev x]).foldl (fun t (p, v) => t.setIfInBounds p v) a.tmps = a.tmps.setIfInBounds tv (ev x) := by simp
    rw [e]
    refine hassign l x W K (hK _ _ ((KeepsOthers.alloc W _).from _) ?_ (hI.alloc _ hi) ⟨W.heap.size, hIs _ _ hi, Blk.new _ _ _, rfl⟩)
    exact Below.heap_alloc W _ B (Nat.lt_of_lt_of_le hB (hIs _ _ hi))
  · rintro l pre x a' W hl hr hi ⟨Bp, h1, h2, rfl⟩ hN
    exact hbody l pre x Bp W hl hr hi h1 h2 hN
end Go.Proofs.YtabnpimidhlbiaaGreat
set_option linter.unusedSimpArgs false
set_option linter.unusedVariables false
namespace Go.Proofs.YtabnpimidhlbiaaGreat
open Go.RowKit

section
variable {P : Program} {ops : Array Oper} {md : Region.Mode} {Q : Exit → Act → World → Prop} {S : World → Prop} {z : Nat}
/-- whatever order is picked; S holds behind every operation but number z, which waits for all that is taken first -/
def wpAnyZ (P : Program) (md : Region.Mode) (ops : Array Oper) (Q : Exit → Act → World → Prop) (S : World → Prop) (z : Nat) : Nat → Array Bool → Act → World → Prop
  | 0, l, a, w => Region.ready md ops l = [] ∧ Q .normal a w
  | fuel + 1, l, a, w => (Region.ready md ops l = [] → Q .normal a w) ∧
    ∀ i ∈ Region.ready md ops l, wpOp P ops Q i (fun a' w' => (i ≠ z → S w') ∧ wpAnyZ P md ops Q S z fuel (l.setIfInBounds i true) a' w') a w

/-- operation z waits for operation i, at once or by others -/
def waitsT (md : Region.Mode) (ops : Array Oper) : Nat → Nat → Nat → Bool
  | 0, _, _ => false
  | f + 1, z, i =>
    match ops[z]? with
    | some o => o.after.any fun e => Region.binds md e && (e.on == i || waitsT md ops f e.on i)
    | none => false
/-- whoever is listed, those that it waits for are -/
def closedB (md : Region.Mode) (ops : Array Oper) (l : Array Bool) : Bool :=
  (List.range ops.size).all fun k => !l.getD k false || ((ops[k]?).map fun o => o.after.all fun e => !Region.binds md e || l.getD e.on false).getD true
def Closed (md : Region.Mode) (ops : Array Oper) (l : Array Bool) : Prop := ∀ k o, ops[k]? = some o → l.getD k false = true → ∀ e ∈ o.after, Region.binds md e = true → l.getD e.on false = true
theorem closed_of_B {l : Array Bool} (h : closedB md ops l = true) : Closed md ops l := by
  intro k o ho hk e he hb
  have hlt := (Array.getElem?_eq_some_iff.1 ho).1
  have h1 := (List.all_eq_true.1 h) k (List.mem_range.2 hlt)
  rw [hk, ho] at h1
  simp only [Bool.not_true, Bool.false_or, Option.map_some, Option.getD_some, Array.all_eq_true] at h1
  obtain ⟨q, hq, rfl⟩ := Array.getElem_of_mem he
  have h2 := h1 q hq
  rw [hb] at h2
  simpa using h2
theorem Closed.set {l : Array Bool} {j : Nat} (h : Closed md ops l) (hj : j ∈ Region.ready md ops l) : Closed md ops (l.setIfInBounds j true) := by
  intro k o ho hk e he hb
  by_cases hkj : j = k
  · subst hkj
    obtain ⟨_, o', ho', hall⟩ := mem_ready.1 hj
    rw [ho] at ho'
    cases ho'
    exact getD_set_true (hall e he hb)
  · rw [getD_set_ne false hkj] at hk
    exact getD_set_true (h k o ho hk e he hb)
theorem Closed.waits {l : Array Bool} (h : Closed md ops l) : ∀ (f z i : Nat) (o : Oper), ops[z]? = some o → (∀ e ∈ o.after, Region.binds md e = true → l.getD e.on false = true) → waitsT md ops f z i = true → l.getD i false = true
  | 0, _, _, _, _, _, hw => by cases hw
  | f + 1, z, i, o, ho, hall, hw => by
    unfold waitsT at hw
    rw [ho] at hw
    simp only [Array.any_eq_true, Bool.and_eq_true, Bool.or_eq_true, beq_iff_eq] at hw
    obtain ⟨k, hk, hb, hc⟩ := hw
    have h1 := hall _ (Array.getElem_mem hk) hb
    rcases hc with rfl | hc
    · exact h1
    · cases hq : ops[(o.after[k]).on]? with
      | none => unfold waitsT at hc; cases f <;> simp [hq] at hc
      | some o' => exact Closed.waits h f _ i o' hq (h _ o' hq h1) hc

theorem not_ready_of_waits {i : Nat} {l : Array Bool} (hcl : Closed md ops l) (hw : waitsT md ops 40 z i = true) (hi : i ∈ Region.ready md ops l) : z ∉ Region.ready md ops l := by
  intro hz
  obtain ⟨_, o, ho, hall⟩ := mem_ready.1 hz
  obtain ⟨hun, _, _, _⟩ := mem_ready.1 hi
  have h1 := hcl.waits 40 z i o ho hall hw
  cases hq : l[i]? <;> simp [hq] at hun h1
  rw [hun] at h1
  cases h1

/-- Q, but False at a panic -/
def NoP (Q : Exit → Act → World → Prop) : Exit → Act → World → Prop
  | .panic _, _, _ => False
  | e, a, w => Q e a w
theorem NoP.imp : ∀ (e : Exit) (a : Act) (w : World), NoP Q e a w → Q e a w := fun e a w h => by
  cases e <;> first | exact h | exact (h : False).elim
theorem wpAnyZ_done {l : Array Bool} {a : Act} {w : World} (hr : Region.ready md ops l = []) (h : Q .normal a w) : ∀ fuel, wpAnyZ P md ops (NoP Q) S z fuel l a w
  | 0 => ⟨hr, h⟩
  | _ + 1 => ⟨fun _ => h, by rw [hr]; simp⟩
end

end Go.Proofs.YtabnpimidhlbiaaGreat
set_option linter.unusedSimpArgs false
set_option linter.unusedVariables false
namespace Go.Proofs.YtabnpimidhlbiaaGreat
open Go.RowKit

section
variable {P : Program} {ops : Array Oper} {md : Region.Mode} {Q : Exit → Act → World → Prop} {S : World → Prop} {z : Nat}
/-- whatever order is picked; S holds as long as operation z is not listed -/
def wpAnyY (P : Program) (md : Region.Mode) (ops : Array Oper) (Q : Exit → Act → World → Prop) (S : World → Prop) (z : Nat) : Nat → Array Bool → Act → World → Prop
  | 0, l, a, w => Region.ready md ops l = [] ∧ Q .normal a w
  | fuel + 1, l, a, w => (Region.ready md ops l = [] → Q .normal a w) ∧
    ∀ i ∈ Region.ready md ops l, wpOp P ops Q i (fun a' w' => ((l.setIfInBounds i true).getD z false = false → S w') ∧ wpAnyY P md ops Q S z fuel (l.setIfInBounds i true) a' w') a w

theorem wpAny_of_Y : ∀ (fuel : Nat) (l : Array Bool) (a : Act) (w : World), wpAnyY P md ops Q S z fuel l a w → wpAny P md ops Q fuel l a w
  | 0, _, _, _, h => h
  | fuel + 1, _, _, _, h => ⟨h.1, fun i hi => wpOp_mono (fun _ _ h' => wpAny_of_Y fuel _ _ _ h'.2) (h.2 i hi)⟩

theorem wpAnyY_first {i : Nat} {oi : Oper} {v : Value} (hi : ops[i]? = some oi) (hsel : Region.noSelect ops = true) (hz : i ≠ z) (hw : waitsT md ops 40 z i = true)
    (hQ : ∀ c a w, Q (.panic c) (a.put oi.dst v) w → Q (.panic c) a w) :
    ∀ (fuel : Nat) (l : Array Bool) (a : Act) (w : World), Closed md ops l → l.getD z false = false → (∀ j oj, ops[j]? = some oj → j ≠ i → l.getD j true = false → (∀ e ∈ oj.after, Region.binds md e = true → e.on ≠ i) → oi.apart ops oj = true) →
      i ∈ Region.ready md ops l → YieldsIf P ops S oi v a → S w → wpAnyY P md ops Q S z fuel (l.setIfInBounds i true) (a.put oi.dst v) w → wpAnyY P md ops Q S z (fuel + 1) l a w
  | fuel, l, a, w, hcl, hlz, hfree, hr, hy, hS, H => by
    refine ⟨fun h => absurd (h ▸ hr) (by simp), fun j hj => ?_⟩
    by_cases hji : j = i
    · subst hji
      exact hy.wpOp hi hS ⟨fun _ => hS, H⟩
    have hj2 := ready_mono hj hji
    cases fuel with
    | zero => rw [H.1] at hj2; cases hj2
    | succ fuel =>
      have hjz : j ≠ z := fun e => not_ready_of_waits hcl hw hr (e ▸ hj)
      have hlz' : (l.setIfInBounds j true).getD z false = false := by rw [getD_set_ne false hjz]; exact hlz
      obtain ⟨hjun, oj, hoj, hall⟩ := mem_ready.1 hj
      have hno : ∀ e ∈ oj.after, Region.binds md e = true → e.on ≠ i := fun e he hb heq => by
        have h1 := hall e he hb
        have h0 := (mem_ready.1 hr).1
        rw [heq] at h1
        cases hq : l[i]? <;> simp [hq] at h0 h1
        rw [h0] at h1
        cases h1
      have h2 := wpOp_putIf hoj (hfree j oj hoj hji hjun hno) (fun cs b => Region.noSelect_spec hsel i oi cs b hi) (fun cs b => Region.noSelect_spec hsel j oj cs b hoj) hQ hy (H.2 j hj2)
      have hlz2 : ((l.setIfInBounds i true).setIfInBounds j true).getD z false = false := by rw [getD_set_ne false hjz, getD_set_ne false hz]; exact hlz
      refine wpOp_mono (fun a' w' h3 => ⟨fun _ => h3.2.1 hlz2, ?_⟩) h2
      refine wpAnyY_first hi hsel hz hw hQ fuel _ a' w' (hcl.set hj) hlz' (fun k ok hk hki hun hn => hfree k ok hk hki ?_ hn) (ready_mono hr (Ne.symm hji)) h3.1 (h3.2.1 hlz2) ?_
      · by_cases hjk : j = k
        · exact hjk ▸ hjun
        · rwa [getD_set_ne true hjk] at hun
      · rw [Array.setIfInBounds_comm _ _ hji]
        exact h3.2.2

/-- .. at once, or by others: asked in this order (the kernel is quick at the first) -/
def waitsD (md : Region.Mode) (ops : Array Oper) (z i : Nat) : Bool :=
  (match ops[z]? with | some o => o.after.any fun e => Region.binds md e && e.on == i | none => false) || waitsT md ops 40 z i
theorem waitsD_T {i : Nat} (h : waitsD md ops z i = true) : waitsT md ops 40 z i = true := by
  unfold waitsD at h
  rw [Bool.or_eq_true] at h
  rcases h with h | h
  · unfold waitsT
    cases ho : ops[z]? with
    | none => rw [ho] at h; cases h
    | some o =>
      rw [ho] at h
      simp only [Array.any_eq_true, Bool.and_eq_true, beq_iff_eq] at h ⊢
      obtain ⟨k, hk, hb, he⟩ := h
      exact ⟨k, hk, hb, by simp [he]⟩
  · exact h
theorem wpAnyY_take {i : Nat} {oi : Oper} {v : Value} {fuel : Nat} {l : Array Bool} {a : Act} {w : World} (hi : ops[i]? = some oi) (hs : Region.noSelect ops = true) (hf : Region.free md ops l i = true)
    (hr : (Region.ready md ops l).contains i = true) (hw : (decide (i ≠ z) && (waitsD md ops z i && (closedB md ops l && !l.getD z false))) = true) (hQ : ∀ c a w, Q (.panic c) (a.put oi.dst v) w → Q (.panic c) a w) (hy : YieldsIf P ops S oi v a) (hS : S w)
    (h : wpAnyY P md ops Q S z fuel (l.setIfInBounds i true) (a.put oi.dst v) w) : wpAnyY P md ops Q S z (fuel + 1) l a w := by
  simp only [Bool.and_eq_true, decide_eq_true_eq, Bool.not_eq_true'] at hw
  exact wpAnyY_first hi hs hw.1 (waitsD_T hw.2.1) hQ fuel l a w (closed_of_B hw.2.2.1) hw.2.2.2 (Region.free_spec hi hf) (by simpa using hr) hy hS h

/-- one operation alone may come up, and z is listed or is this one -/
theorem wpAnyY_one {i : Nat} {o : Oper} {fuel : Nat} {l : Array Bool} {a : Act} {w : World} (hr : Region.ready md ops l = [i]) (ho : ops[i]? = some o) (hz : (l.setIfInBounds i true).getD z false = true)
    (h : ∀ K' : Act → World → Prop, Shut (∀ a w, wpAnyY P md ops Q S z fuel (l.setIfInBounds i true) a w → K' a w) → if Region.wanted o (yielded ops a.tmps) = true then Oper.wp P o a w K' Q else K' (a.put o.dst undef) w) :
    wpAnyY P md ops Q S z (fuel + 1) l a w := by
  refine ⟨fun h0 => (by rw [hr] at h0; cases h0), fun j hj => ?_⟩
  rw [hr] at hj
  obtain rfl : j = i := by simpa using hj
  exact wpOp_step ho (fun K' hK => h K' (fun a w hW => hK a w ⟨fun e => (by rw [hz] at e; cases e), hW⟩))
/-- .. where S is told -/
theorem wpAnyY_oneS {i : Nat} {o : Oper} {fuel : Nat} {l : Array Bool} {a : Act} {w : World} (hr : Region.ready md ops l = [i]) (ho : ops[i]? = some o)
    (h : ∀ K' : Act → World → Prop, Shut (∀ a w, S w → (S w → wpAnyY P md ops Q S z fuel (l.setIfInBounds i true) a w) → K' a w) → if Region.wanted o (yielded ops a.tmps) = true then Oper.wp P o a w K' Q else K' (a.put o.dst undef) w) :
    wpAnyY P md ops Q S z (fuel + 1) l a w := by
  refine ⟨fun h0 => (by rw [hr] at h0; cases h0), fun j hj => ?_⟩
  rw [hr] at hj
  obtain rfl : j = i := by simpa using hj
  exact wpOp_step ho (fun K' hK => h K' (fun a w hS hW => hK a w ⟨fun _ => hS, hW hS⟩))
end
theorem wpAnyY_done {P : Program} {ops : Array Oper} {md : Region.Mode} {Q : Exit → Act → World → Prop} {S : World → Prop} {z : Nat} {l : Array Bool} {a : Act} {w : World} (hr : Region.ready md ops l = []) (h : Q .normal a w) : ∀ fuel, wpAnyY P md ops (NoP Q) S z fuel l a w
  | 0 => ⟨hr, h⟩
  | _ + 1 => ⟨fun _ => h, by rw [hr]; simp⟩
theorem wp_region_Y {P : Program} {Q : Exit → Act → World → Prop} {id : Nat} {a : Act} {w : World} {S : World → Prop} {l' : List Oper} (z N : Nat) (hN : l'.length = N) (hm : P.follows .mixedOrders = true) (hS : S w.drew)
    (h : S w.drew → wpAnyY P .any l'.toArray (NoP Q) S z N (Array.replicate N false) a w.drew) : (Code.region id l'.toArray true).wp P Q a w :=
  Code.wp_mono NoP.imp (wp_region_any hm (wpAny_of_Y _ _ _ _ (by subst hN; simpa using h hS)))
end Go.Proofs.YtabnpimidhlbiaaGreat
set_option linter.unusedSimpArgs false
set_option linter.unusedVariables false
namespace Go.Proofs.YtabnpimidhlbiaaGreat
open Go.RowKit Go.Shelf
attribute [local go_sem] Oper.semAt_some

theorem wide_fn (f : Nat) : Fence.wide.fn f = True := rfl
theorem wide_dep : Fence.wide.depth = none := rfl
theorem wideR_fn (l f : Nat) : (Fence.wide.inRound l).fn f = True := rfl
theorem wideR_dep (l : Nat) : (Fence.wide.inRound l).depth = none := rfl
attribute [local go_sem] wide_fn wide_dep wideR_fn wideR_dep ptV

structure Sp where
  x : Nat
  y : Nat
  more : Nat
instance : Inhabited Sp := ⟨⟨0, 0, 0⟩⟩
def oc (north cols : Int) (E : Value) (lofts : Int) (S : Value) (wrong : Int) (sum : Nat) (sl : Nat → Value) : Array Value :=
  #[.int .i64 north, .int .i64 cols, E, .int .i64 lofts, S, .int .i64 wrong, .int .i64 sum, sl 0, sl 1, sl 2, sl 3, sl 4, sl 5, sl 6, sl 7]
section
variable (north : Int) (cols : Nat) (east : List Int) (svs : List Sv)
end

theorem Fr.t2 {R R' : Nat → Prop} {A B C : World} (h : Fr R A B) (k : Fr R' B C) (hr : ∀ i, i < A.heap.size → R' i → R i) : Fr R A C :=
  ⟨k.os.trans h.os, k.tape.trans h.tape, k.output.trans h.output, Nat.le_trans h.size k.size, fun i hi hn => (k.block i (Nat.lt_of_lt_of_le hi h.size) (fun h' => hn (hr i hi h'))).trans (h.block i hi hn)⟩
theorem ownsRow_kept' {W W' : World} {base : Nat} {e : TypeId} {size : Nat} {v : Value} {k : Nat} {xs : List Value} {row : Option Nat} (h : W.ownsRow base e size v k xs) (hg : W.grownBy W' row)
    (hrow : ∀ r, row = some r → ∃ o : Obj, W.heap[r]? = some o ∧ o.isCells = false) : W'.ownsRow base e size v k xs := by
  refine h.kept hg ?_
  rcases h.2 with ⟨rfl, _⟩ | ⟨g, cap, cur, rfl, _, hgb, _⟩
  · exact .inl rfl
  · refine .inr fun e' => ?_
    obtain ⟨o, ho, hc⟩ := hrow g (by simpa [Value.ownBlock] using e'.symm)
    rw [hgb] at ho; cases ho; cases hc

theorem grownBy_set (W : World) (a : Addr) (v : Value) : W.grownBy (W.setCell a v) (some a.block) :=
  ⟨rfl, rfl, rfl, (KeepsWalks.setCell W _ v).size, fun k _ hk => Below.heap_setCell _ _ _ k (fun e => hk (by rw [e]))⟩
theorem own_ne {W : World} {g : Nat} {t e : TypeId} {cs : Array Value} {base size k : Nat} {v : Value} {xs : List Value} (hr : W.ownsRow base e size v k xs) (h : Blk W g t cs) (hte : t ≠ e) : some g ≠ v.ownBlock := by
  rcases hr.2 with ⟨rfl, _⟩ | ⟨g', cap, cur, rfl, _, hgb, _⟩
  · simp [Value.ownBlock]
  · intro e'
    obtain rfl : g = g' := by simpa [Value.ownBlock] using e'
    have := (show W.heap[g]? = _ from h).symm.trans hgb
    simp at this
    exact hte this.2
theorem own_far {W : World} {g : Nat} {e : TypeId} {base size k : Nat} {v : Value} {xs : List Value} (hr : W.ownsRow base e size v k xs) (hg : W.heap.size ≤ g) : some g ≠ v.ownBlock := by
  rcases hr.2 with ⟨rfl, _⟩ | ⟨g', cap, cur, rfl, _, hgb, _⟩
  · simp [Value.ownBlock]
  · intro e'
    obtain rfl : g = g' := by simpa [Value.ownBlock] using e'
    have := (Array.getElem?_eq_some_iff.1 hgb).1
    omega
theorem own_base {W : World} {g : Nat} {e : TypeId} {base size k : Nat} {v : Value} {xs : List Value} (hr : W.ownsRow base e size v k xs) (hg : v.ownBlock = some g) : base ≤ g := by
  rcases hr.2 with ⟨rfl, _⟩ | ⟨g', cap, cur, rfl, hb, hgb, _⟩
  · simp [Value.ownBlock] at hg
  · obtain rfl : g' = g := by simpa [Value.ownBlock] using hg
    exact hb
theorem own_cells {W : World} {g : Nat} {e : TypeId} {base size k : Nat} {v : Value} {xs : List Value} (hr : W.ownsRow base e size v k xs) (hg : v.ownBlock = some g) : ∃ c t f, W.heap[g]? = some (.cells c t f) := by
  rcases hr.2 with ⟨rfl, _⟩ | ⟨g', cap, cur, rfl, hb, hgb, _⟩
  · simp [Value.ownBlock] at hg
  · obtain rfl : g' = g := by simpa [Value.ownBlock] using hg
    exact ⟨_, _, _, hgb⟩
end Go.Proofs.YtabnpimidhlbiaaGreat
set_option linter.unusedSimpArgs false
set_option linter.unusedVariables false
namespace Go.Proofs.YtabnpimidhlbiaaGreat
open Go.RowKit Go.Shelf
attribute [local go_sem] Oper.semAt_some wide_fn wide_dep

end Go.Proofs.YtabnpimidhlbiaaGreat
set_option linter.unusedSimpArgs false
set_option linter.unusedVariables false
namespace Go.Proofs.YtabnpimidhlbiaaGreat
open Go.RowKit Go.Shelf
attribute [local go_sem] Oper.semAt_some wide_fn wide_dep wideR_fn wideR_dep

section
variable {F : Fence} {n : Nat} {P : Program}
end

theorem own_weaken {W : World} {base base' : Nat} {e : TypeId} {size k : Nat} {v : Value} {xs : List Value} (h : W.ownsRow base e size v k xs) (hb : base' ≤ base) : W.ownsRow base' e size v k xs := by
  refine ⟨h.1, ?_⟩
  rcases h.2 with h' | ⟨g, cap, cur, h1, h2, h3⟩
  · exact .inl h'
  · exact .inr ⟨g, cap, cur, h1, Nat.le_trans hb h2, h3⟩
theorem cell_one_new (w : World) (t : TypeId) (v : Value) : ∀ j u, [v][j]? = some u → (w.alloc (.cells #[v] t)).cell? ((⟨w.heap.size, 0, none⟩ : Addr).add j) = some u :=
  World.news_of_block (cs := #[v]) (t := t) (fr := (0, 0)) (heap_alloc_new w _)
theorem info3 : (Tryz.prog.info? 3).map (fun i => (i.zero, i.size, i.bytes)) = some (some (.int .i64 0), 1, 8) := by kernel_rfl

end Go.Proofs.YtabnpimidhlbiaaGreat
set_option linter.unusedSimpArgs false
set_option linter.unusedVariables false
namespace Go.Proofs.YtabnpimidhlbiaaGreat
open Go.RowKit Go.Shelf

/-- what an iterator does by itself: it may lay blocks, and write those cells of its own (from B on) that are of a type in T -/
structure Kt (T : TypeId → Prop) (B : Nat) (X Y : World) : Prop where
  os : Y.os = X.os
  tape : Y.tape = X.tape
  output : Y.output = X.output
  size : X.heap.size ≤ Y.heap.size
  block : ∀ i o, X.heap[i]? = some o → (i < B ∨ ∀ c t f, o = .cells c t f → ¬ T t) → Y.heap[i]? = some o
section
variable {T : TypeId → Prop} {B : Nat} {X Y Z : World}
theorem G.kt (h : G X Y) : Kt T B X Y := ⟨h.os, h.tape, h.output, h.size, fun i o hi _ => (h.block i (Array.getElem?_eq_some_iff.1 hi).1).trans hi⟩
end
section
variable {l D B : Nat} {r r' : Loop} {X Y : World} {T : TypeId → Prop}
end

section
variable {F : Fence} {n : Nat} {P : Program}
end
end Go.Proofs.YtabnpimidhlbiaaGreat
set_option linter.unusedSimpArgs false
set_option linter.unusedVariables false
namespace Go.Proofs.YtabnpimidhlbiaaGreat
open Go.RowKit

end Go.Proofs.YtabnpimidhlbiaaGreat
set_option linter.unusedSimpArgs false
set_option linter.unusedVariables false
namespace Go.Proofs.YtabnpimidhlbiaaGreat
open Go.RowKit

end Go.Proofs.YtabnpimidhlbiaaGreat
set_option linter.unusedSimpArgs false
set_option linter.unusedVariables false
namespace Go.Proofs.YtabnpimidhlbiaaGreat
open Go.RowKit

end Go.Proofs.YtabnpimidhlbiaaGreat
set_option linter.unusedSimpArgs false
set_option linter.unusedVariables false
namespace Go.Proofs.YtabnpimidhlbiaaGreat
open Go.RowKit

end Go.Proofs.YtabnpimidhlbiaaGreat

set_option linter.unusedSimpArgs false
set_option linter.unusedVariables false
namespace Go.Proofs.YtabnpimidhlbiaaGreat
open Go.RowKit Go.Shelf
attribute [local go_sem] Oper.semAt_some wide_fn wide_dep wideR_fn wideR_dep

abbrev At := Nat → Nat × Nat
def pc (f : At) : Array Value := #[.int .i64 (f 0).1, .int .i64 (f 0).2, .int .i64 (f 1).1, .int .i64 (f 1).2, .int .i64 (f 2).1, .int .i64 (f 2).2, .int .i64 (f 3).1, .int .i64 (f 3).2,
  .int .i64 (f 4).1, .int .i64 (f 4).2, .int .i64 (f 5).1, .int .i64 (f 5).2, .int .i64 (f 6).1, .int .i64 (f 6).2, .int .i64 (f 7).1, .int .i64 (f 7).2]
/-- every block of cells but those of R lies as it lay -/
structure KC (R : Nat → TypeId → Prop) (W W' : World) : Prop where
  size : W.heap.size ≤ W'.heap.size
  block : ∀ i c t f, W.heap[i]? = some (.cells c t f) → ¬ R i t → W'.heap[i]? = some (.cells c t f)
section
variable {R : Nat → TypeId → Prop} {A B C : World}
end
section
variable {O g : Nat} {gc oc0 : Array Value} {lofts : Nat} {slv : Nat → Value} {rows : Nat → List Sp} {W W' : World}
end

end Go.Proofs.YtabnpimidhlbiaaGreat
set_option linter.unusedSimpArgs false
set_option linter.unusedVariables false
namespace Go.Proofs.YtabnpimidhlbiaaGreat
open Go.RowKit Go.Shelf
attribute [local go_sem] Oper.semAt_some wide_fn wide_dep wideR_fn wideR_dep

section
variable {P : Program} {ops : Array Oper} {md : Region.Mode} {Q : Exit → Act → World → Prop} {S : World → Prop} {z : Nat}
theorem wpAnyY_oneW {i : Nat} {o : Oper} {fuel : Nat} {l : Array Bool} {a : Act} {w : World} (hr : Region.ready md ops l = [i]) (ho : ops[i]? = some o) (hz : (l.setIfInBounds i true).getD z false = true) (hw : Region.wanted o (yielded ops a.tmps) = true)
    (h : ∀ K' : Act → World → Prop, Shut (∀ a w, wpAnyY P md ops Q S z fuel (l.setIfInBounds i true) a w → K' a w) → Oper.wp P o a w K' Q) :
    wpAnyY P md ops Q S z (fuel + 1) l a w := wpAnyY_one hr ho hz (fun K' hK => by rw [if_pos hw]; exact h K' hK)
theorem wpAnyY_oneSW {i : Nat} {o : Oper} {fuel : Nat} {l : Array Bool} {a : Act} {w : World} (hr : Region.ready md ops l = [i]) (ho : ops[i]? = some o) (hw : Region.wanted o (yielded ops a.tmps) = true)
    (h : ∀ K' : Act → World → Prop, Shut (∀ a w, S w → (S w → wpAnyY P md ops Q S z fuel (l.setIfInBounds i true) a w) → K' a w) → Oper.wp P o a w K' Q) :
    wpAnyY P md ops Q S z (fuel + 1) l a w := wpAnyY_oneS hr ho (fun K' hK => by rw [if_pos hw]; exact h K' hK)
end

end Go.Proofs.YtabnpimidhlbiaaGreat
namespace Go.Proofs
open Go.Shelf
open Go.Sort Go.RowKit in
open Go.RowKit Go.Lib Go.Sort in
open Go.RowKit Go.Lib Go.Sort in
open Go.RowKit Go.Lib Go.Sort in
open Go.RowKit Go.Lib in
open Go.RowKit Go.Lib in
open Go.RowKit Go.Lib Go.Sort in
open Go.RowKit Go.Sort in
set_option linter.unusedSimpArgs false
set_option linter.unusedVariables false
namespace Go.Proofs.YtabnpimidhlbiaaGreat
open Go.RowKit Go.Shelf Go.Sort

section
end
end Go.Proofs.YtabnpimidhlbiaaGreat
set_option linter.unusedSimpArgs false
set_option linter.unusedVariables false
namespace Go.Proofs.YtabnpimidhlbiaaGreat
open Go.RowKit Go.Shelf

end Go.Proofs.YtabnpimidhlbiaaGreat
set_option linter.unusedSimpArgs false
set_option linter.unusedVariables false
namespace Go.Proofs.YtabnpimidhlbiaaGreat
open Go.RowKit Go.Shelf
end Go.Proofs.YtabnpimidhlbiaaGreat
set_option linter.unusedSimpArgs false
set_option linter.unusedVariables false
namespace Go.Proofs.YtabnpimidhlbiaaGreat
open Go.RowKit Go.Shelf

end Go.Proofs.YtabnpimidhlbiaaGreat
set_option linter.unusedSimpArgs false
set_option linter.unusedVariables false
namespace Go.Proofs.YtabnpimidhlbiaaGreat
open Go.RowKit Go.Shelf
end Go.Proofs.YtabnpimidhlbiaaGreat
set_option linter.unusedSimpArgs false
set_option linter.unusedVariables false
namespace Go.Proofs.YtabnpimidhlbiaaGreat
open Go.RowKit Go.Shelf

end Go.Proofs.YtabnpimidhlbiaaGreat
end Go.Proofs

set_option linter.unusedSimpArgs false
set_option linter.unusedVariables false
namespace Go.Proofs.YtabnpimidhlbiaaGreat
open Go.RowKit

section
variable (north cols lofts wrong loft kind xl xh yl yh ax ay dl dh : Int) (ea : Option Addr) (el ec : Nat) (s : Value) (w : World)
end

end Go.Proofs.YtabnpimidhlbiaaGreat
set_option linter.unusedSimpArgs false
set_option linter.unusedVariables false
namespace Go.Proofs.YtabnpimidhlbiaaGreat
open Go.RowKit
attribute [local go_sem] Oper.semAt_some

end Go.Proofs.YtabnpimidhlbiaaGreat
set_option linter.unusedSimpArgs false
set_option linter.unusedVariables false
namespace Go.Proofs.YtabnpimidhlbiaaGreat
open Go.RowKit
attribute [local go_sem] Oper.semAt_some

def exEast : List Int := [800, 700, 600]
def exSvs : List Sv := [⟨0, 1, 0, 1, 0, 0, 0, 0, 0, 0⟩, ⟨0, 2, 0, 0, 0, 0, 3, 0, 1601, 2400⟩, ⟨1, 1, 2, 3, 1, 2, 0, 0, 0, 0⟩, ⟨1, 2, 0, 0, 0, 0, 0, 0, 1800, 2300⟩]
end Go.Proofs.YtabnpimidhlbiaaGreat
set_option linter.unusedSimpArgs false
set_option linter.unusedVariables false
namespace Go.Proofs.YtabnpimidhlbiaaGreat
open Go.RowKit
attribute [local go_sem] Oper.semAt_some
section
variable {gE gS : Nat} {w : World} (he : IntsAt w (some ⟨gE, 0, none⟩) exEast) (hs : SvsAt w (some ⟨gS, 0, none⟩) exSvs)
include he hs
end

end Go.Proofs.YtabnpimidhlbiaaGreat
set_option linter.unusedSimpArgs false
set_option linter.unusedVariables false
namespace Go.Proofs.YtabnpimidhlbiaaGreat
open Go.RowKit
attribute [local go_sem] Oper.semAt_some

section
variable (north cols lofts wrong px py qx qy : Int) (east : List Int) (svs : List Sv) (ea sa : Option Addr) (ec sc : Nat) (w : World)
variable (he : IntsAt w ea east) (hs : SvsAt w sa svs) (hl : east.length ≤ 9223372036854775807) (hl2 : svs.length ≤ 9223372036854775807)

end
end Go.Proofs.YtabnpimidhlbiaaGreat
set_option linter.unusedSimpArgs false
set_option linter.unusedVariables false
namespace Go.Proofs.YtabnpimidhlbiaaGreat
open Go.RowKit Go.ChangeShapes Go.WideShapes Go.ChangeAt
set_option maxRecDepth 100000

theorem k3 : Tryz.prog.cellsOf 3 = 1 := by kernel_rfl
section
variable {H : Type} {enc : TypeId × Value → H} {w : World} {base : Nat} {sp : Nat → Bool} {held : Bool} {fuel : Nat}
end

theorem add_none (b off k : Nat) : (⟨b, off, none⟩ : Addr).add k = ⟨b, off + k, none⟩ := by
  unfold Addr.add
  split
  · rename_i h; simp [h]
  · rfl
theorem lt_of_cell {w : World} {b o : Nat} {v : Value} (h : w.cell? ⟨b, o, none⟩ = some v) : b < w.heap.size := by
  rcases Nat.lt_or_ge b w.heap.size with hlt | hge
  · exact hlt
  · simp [World.cell?, Array.getElem?_eq_none hge] at h

section
variable {H : Type} {enc : TypeId × Value → H} {w : World} {fuel : Nat}
end
end Go.Proofs.YtabnpimidhlbiaaGreat
set_option linter.unusedSimpArgs false
set_option linter.unusedVariables false
namespace Go.Proofs.YtabnpimidhlbiaaGreat
open Go.RowKit Go.ChangeShapes Go.WideShapes Go.ChangeAt
set_option maxRecDepth 100000

section
variable {H : Type} {enc : TypeId × Value → H} {w : World}
end
end Go.Proofs.YtabnpimidhlbiaaGreat
set_option linter.unusedSimpArgs false
set_option linter.unusedVariables false
namespace Go.Proofs.YtabnpimidhlbiaaGreat
open Go.RowKit Go.Shelf
attribute [local go_sem] Oper.semAt_some

theorem own_empty {W : World} {g : Nat} {t : TypeId} (hb : Blk W g t #[]) (size : Nat) : W.ownsRow g t size (.slice (some ⟨g, 0, none⟩) 0 0) 0 [] :=
  ⟨by simp, .inr ⟨g, 0, #[], rfl, Nat.le_refl _, hb, Nat.le_refl _, by decide, by simp, by simp⟩⟩
end Go.Proofs.YtabnpimidhlbiaaGreat
set_option linter.unusedSimpArgs false
set_option linter.unusedVariables false
namespace Go.Proofs.YtabnpimidhlbiaaGreat
open Go.RowKit
attribute [local go_sem] Oper.semAt_some

section
variable (north wrong : Int) (cols lofts : Nat) (east : List Int) (svs : List Sv) (ea sa : Option Addr) (ec sc : Nat) (w : World)
end

section
variable (north cols lofts wrong : Int) (east : List Int) (svs : List Sv) (ea sa : Option Addr) (ec sc : Nat) (w : World) (he : IntsAt w ea east) (hs : SvsAt w sa svs) (hl : east.length ≤ 9223372036854775807) (hl2 : svs.length ≤ 9223372036854775807)
include he hs hl hl2
end
end Go.Proofs.YtabnpimidhlbiaaGreat
set_option linter.unusedSimpArgs false
set_option linter.unusedVariables false
namespace Go.Proofs.YtabnpimidhlbiaaGreat
open Go.RowKit Go.Shelf
attribute [local go_sem] Oper.semAt_some wide_fn wide_dep wideR_fn wideR_dep

theorem ownsRow_kt {base : Nat} {e : TypeId} {size k : Nat} {v : Value} {xs : List Value} {T : TypeId → Prop} {B : Nat} {X Y : World} (h : X.ownsRow base e size v k xs) (hk : Kt T B X Y) (hT : ¬ T e) : Y.ownsRow base e size v k xs := by
  refine ⟨h.1, ?_⟩
  rcases h.2 with h' | ⟨g, cap, cur, h1, h2, h3, h4⟩
  · exact .inl h'
  · exact .inr ⟨g, cap, cur, h1, h2, hk.block g _ h3 (.inr (fun c t f e' => by cases e'; exact hT)), h4⟩
end Go.Proofs.YtabnpimidhlbiaaGreat
set_option linter.unusedSimpArgs false
set_option linter.unusedVariables false
namespace Go.Proofs.YtabnpimidhlbiaaGreat
open Go.RowKit
attribute [local go_sem] Oper.semAt_some

section
variable (north wrong : Int) (cols lofts l a b : Nat) (east : List Int) (svs : List Sv) (ea sa : Option Addr) (ec sc : Nat) (w : World)
end
end Go.Proofs.YtabnpimidhlbiaaGreat
set_option linter.unusedSimpArgs false
set_option linter.unusedVariables false
namespace Go.Proofs.YtabnpimidhlbiaaGreat
open Go.RowKit

end Go.Proofs.YtabnpimidhlbiaaGreat
set_option linter.unusedSimpArgs false
set_option linter.unusedVariables false
namespace Go.Proofs.YtabnpimidhlbiaaGreat
open Go.RowKit
attribute [local go_sem] Oper.semAt_some

end Go.Proofs.YtabnpimidhlbiaaGreat

set_option linter.unusedSimpArgs false
set_option linter.unusedVariables false
namespace Go.Proofs.YtabnpimidhlbiaaGreat
open Go.RowKit
attribute [local go_sem] Oper.semAt_some

theorem own_G {X Y : World} {base : Nat} {e : TypeId} {size k : Nat} {v : Value} {xs : List Value} (h : X.ownsRow base e size v k xs) (hk : G X Y) : Y.ownsRow base e size v k xs :=
  ownsRow_kt h (G.kt (T := fun _ => False) (B := 0) hk) (fun h => h)
theorem grow_own {wb WX w4 : World} {base : Nat} {e : TypeId} {size n : Nat} {v : Value} {xs : List Value} (hG : G wb WX) (h : WX.ownsRow base e size v n xs) (hb : wb.heap.size ≤ base) (hg : WX.grownBy w4 v.ownBlock) : G wb w4 :=
  (Fr.grown (G.fr (R := fun _ => False) hG) hg (fun g e => .inr (Nat.le_trans hb (own_base h e)))).toG (fun _ _ h => h)
theorem own_own {W : World} {b1 b2 s1 s2 n1 n2 : Nat} {e1 e2 : TypeId} {v1 v2 : Value} {xs1 xs2 : List Value} (h1 : W.ownsRow b1 e1 s1 v1 n1 xs1) (h2 : W.ownsRow b2 e2 s2 v2 n2 xs2) (hne : e1 ≠ e2) : v1.ownBlock = none ∨ v1.ownBlock ≠ v2.ownBlock := by
  rcases h1.2 with ⟨rfl, _⟩ | ⟨g, cap, cur, rfl, _, hb, _⟩
  · exact .inl rfl
  · exact .inr (own_ne h2 (show Blk W g e1 cur from hb) hne)
theorem own_some {W : World} {b s n : Nat} {e : TypeId} {v : Value} {xs : List Value} (h : W.ownsRow b e s v n xs) (hn : 0 < n) : ∃ g cap cur, v = .slice (some ⟨g, 0, none⟩) n cap ∧ Blk W g e cur ∧ g < W.heap.size ∧ cur.toList.take (n * s) = xs := by
  rcases h.2 with ⟨_, h0⟩ | ⟨g, cap, cur, rfl, _, hb, _, _, _, ht⟩
  · omega
  · exact ⟨g, cap, cur, rfl, hb, (Array.getElem?_eq_some_iff.1 hb).1, ht⟩
theorem take_cell {W : World} {g : Nat} {e : TypeId} {cur : Array Value} {n : Nat} {xs : List Value} (h : Blk W g e cur) (ht : cur.toList.take n = xs) {k : Nat} (hk : k < n) {v : Value} (hx : xs[k]? = some v) : W.cell? ⟨g, k, none⟩ = some v := by
  rw [h.cell k]
  rw [← ht, List.getElem?_take_of_lt hk] at hx
  simpa using hx
section
variable {north wrong : Int} {cols lofts : Nat} {east : List Int} {svs : List Sv} {l : List (Int × Int)}
end
section
variable {north wrong : Int} {cols lofts : Nat} {east : List Int} {svs : List Sv} {l : List (Int × Int)}
end
theorem own_slice {W : World} {base n size : Nat} {e : TypeId} {v : Value} {xs : List Value} (h : W.ownsRow base e size v n xs) : ∃ ra rc, v = .slice ra n rc := by
  rcases h.2 with ⟨rfl, h0⟩ | ⟨g, cap, cur, rfl, _⟩
  · subst h0; exact ⟨_, _, rfl⟩
  · exact ⟨_, _, rfl⟩
end Go.Proofs.YtabnpimidhlbiaaGreat

set_option linter.unusedSimpArgs false
set_option linter.unusedVariables false
namespace Go.Proofs.YtabnpimidhlbiaaGreat
open Go.RowKit
attribute [local go_sem] Oper.semAt_some

def spanB (lo hi a b : Int) : Bool := decide (a ≤ lo) && (decide (lo ≤ hi) && decide (hi ≤ b))
end Go.Proofs.YtabnpimidhlbiaaGreat
set_option linter.unusedSimpArgs false
set_option linter.unusedVariables false
namespace Go.Proofs.YtabnpimidhlbiaaGreat
open Go.RowKit
attribute [local go_sem] Oper.semAt_some

end Go.Proofs.YtabnpimidhlbiaaGreat
set_option linter.unusedSimpArgs false
set_option linter.unusedVariables false
namespace Go.Proofs.YtabnpimidhlbiaaGreat
open Go.RowKit
attribute [local go_sem] Oper.semAt_some

end Go.Proofs.YtabnpimidhlbiaaGreat
set_option linter.unusedSimpArgs false
set_option linter.unusedVariables false
namespace Go.Proofs.YtabnpimidhlbiaaGreat
open Go.RowKit
attribute [local go_sem] Oper.semAt_some

end Go.Proofs.YtabnpimidhlbiaaGreat
set_option linter.unusedSimpArgs false
set_option linter.unusedVariables false
namespace Go.Proofs.YtabnpimidhlbiaaGreat
open Go.RowKit
attribute [local go_sem] Oper.semAt_some

section
variable (north cols lofts wrong bx bY sl sh lw lg lh hours dark : Int) (ea : Option Addr) (el ec : Nat) (sv hv fv : Value)
end
end Go.Proofs.YtabnpimidhlbiaaGreat
set_option linter.unusedSimpArgs false
set_option linter.unusedVariables false
namespace Go.Proofs.YtabnpimidhlbiaaGreat
open Go.RowKit
attribute [local go_sem] Oper.semAt_some

/-- what a valid release is, but for its map and its fronts -/
structure RelOk (cols : Int) (el : Nat) (bx bY sl sh lw lg lh hours dark : Int) (n : Nat) (h : Nat → Nat → Int) : Prop where
  base : isPlaceB cols el bx bY = true
  many : n ≤ 6
  homes : ∀ i, i < n → isPlaceB cols el (h i 0) (h i 1) = true
  speed : spanB sl sh 1 3000000 = true
  wind : isInB lw 0 999 = true
  sight : isInB lg 0 999 = true
  heat : isInB lh 0 999 = true
  hrs : isInB hours 1 12 = true
  drk : isInB dark 0 9999 = true
structure FrontOk (cols : Int) (el : Nat) (hours : Int) (d : Nat → Int) : Prop where
  h1 : spanB (d 0) (d 1) 0 (hours - 1) = true
  h2 : spanB (d 2) (d 3) 0 (cols - 1) = true
  h3 : spanB (d 4) (d 5) 0 ((el : Int) - 1) = true
  h4 : spanB (d 6) (d 7) 0 999 = true
  h5 : spanB (d 8) (d 9) 0 999 = true
  h6 : spanB (d 10) (d 11) 0 999 = true
section
variable (north cols lofts wrong bx bY sl sh lw lg lh hours dark : Int) (east : List Int) (svs : List Sv) (n k : Nat) (h f : Nat → Nat → Int) (ea sa ha fa : Option Addr) (ec sc hc fc : Nat) (W : World)
end
end Go.Proofs.YtabnpimidhlbiaaGreat

set_option linter.unusedSimpArgs false
set_option linter.unusedVariables false
namespace Go.Proofs.YtabnpimidhlbiaaGreat
open Go.RowKit
attribute [local go_sem] Oper.semAt_some

/-- what is known of the weather: the winds, the sights, the heats from and to -/
structure Sk where
  wl : Int
  wh : Int
  sl : Int
  sh : Int
  hl : Int
  hh : Int
theorem max2 (a b : Int) (w : World) : (Builtin.max_ #[3, 3] 3 #[.int .i64 a, .int .i64 b]).run Tryz.prog w = .ok (.int .i64 (max a b)) w := by
  simp only [Builtin.max_, List.foldlM]
  simp [go_sem, Builtin.max2]
  split <;> omega
theorem min2 (a b : Int) (w : World) : (Builtin.min_ #[3, 3] 3 #[.int .i64 a, .int .i64 b]).run Tryz.prog w = .ok (.int .i64 (min a b)) w := by
  simp only [Builtin.min_, List.foldlM]
  simp [go_sem, Builtin.min2]
  split <;> omega
theorem resSpan (f : Func) (t : Nat) (tmps : Array Value) (w : World) (g : Nat) (x y : Int) (hr : f.results = #[.cell t 61]) (h : tmps.getD t undef = .pointer (some ⟨g, 0, none⟩)) (c0 : w.cell? ⟨g, 0, none⟩ = some (.int .i64 x)) (c1 : w.cell? ⟨g, 1, none⟩ = some (.int .i64 y)) :
    (results f tmps).run Tryz.prog w = .ok (.agg #[.int .i64 x, .int .i64 y]) w := by
  have h' : tmps[t]?.getD undef = .pointer (some ⟨g, 0, none⟩) := by simpa using h
  simp only [results, hr]
  go_simp
theorem w3_spec6 (w : World) (c0 c1 c2 : Array Value) (t0 t1 t2 : TypeId) : G w (((w.alloc (.cells c0 t0)).alloc (.cells c1 t1)).alloc (.cells c2 t2)) ∧ Blk (((w.alloc (.cells c0 t0)).alloc (.cells c1 t1)).alloc (.cells c2 t2)) w.heap.size t0 c0 ∧ Blk (((w.alloc (.cells c0 t0)).alloc (.cells c1 t1)).alloc (.cells c2 t2)) (w.heap.size + 1) t1 c1 ∧ Blk (((w.alloc (.cells c0 t0)).alloc (.cells c1 t1)).alloc (.cells c2 t2)) (w.heap.size + 1 + 1) t2 c2 :=
  ⟨(((G.rf _).a _).a _).a _, ((Blk.new w t0 c0).alloc _).alloc _, (Blk.new1 w _ t1 c1).alloc _, Blk.new2 w _ _ t2 c2⟩
end Go.Proofs.YtabnpimidhlbiaaGreat
set_option linter.unusedSimpArgs false
set_option linter.unusedVariables false
namespace Go.Proofs.YtabnpimidhlbiaaGreat
open Go.RowKit
attribute [local go_sem] Oper.semAt_some

section
variable {P : Program} {w : World} {ops : Array Oper} {rest : List Oper} {o : Oper} {a : Act} {Q : Exit → Act → World → Prop}
end
end Go.Proofs.YtabnpimidhlbiaaGreat
set_option linter.unusedSimpArgs false
set_option linter.unusedVariables false
namespace Go.Proofs.YtabnpimidhlbiaaGreat
open Go.RowKit
attribute [local go_sem] Oper.semAt_some
theorem eqSp (d : Nat) (a b c e : Int) (w : World) : (Op.equalIn (d + 1 + 1) 61 (.agg #[.int .i64 a, .int .i64 b]) (.agg #[.int .i64 c, .int .i64 e])).run Tryz.prog w = .ok (a == c && b == e) w := by
  have u3 := Tryz.underlying3
  have hS : Tryz.prog.underlying 61 = some (.struct (Tryz.prog.fieldsOf 61)) := by kernel_rfl
  have hp : Tryz.prog.stoodInHeld 61 = false := by kernel_rfl
  rw [run_equalIn_agg w (d + 1) 61 _ _ hS hp]
  simp only [Program.fieldsOf, Tryz.underlying61]
  go_simp
  by_cases h1 : a = c <;> by_cases h2 : b = e <;> simp [h1, h2]
/-- a number of the first n for which p says yes -/
def anyU (p : Nat → Bool) (n : Nat) : Bool := (List.range n).any p
theorem anyU_no {p : Nat → Bool} {n : Nat} (h : ∀ i, i < n → p i = false) : anyU p n = false := by
  unfold anyU
  rw [List.any_eq_false]
  intro x hx
  simp [h x (List.mem_range.1 hx)]
theorem anyU_yes {p : Nat → Bool} {n i : Nat} (hi : i < n) (h : p i = true) : anyU p n = true := by
  unfold anyU
  rw [List.any_eq_true]
  exact ⟨i, List.mem_range.2 hi, h⟩
end Go.Proofs.YtabnpimidhlbiaaGreat
set_option linter.unusedSimpArgs false
set_option linter.unusedVariables false
namespace Go.Proofs.YtabnpimidhlbiaaGreat
open Go.RowKit
attribute [local go_sem] Oper.semAt_some
end Go.Proofs.YtabnpimidhlbiaaGreat

set_option linter.unusedSimpArgs false
set_option linter.unusedVariables false
namespace Go.Proofs.YtabnpimidhlbiaaGreat
/-- an act -/
structure Ac where
  id : Int
  tm : Int
  kd : Int
  bk : Int
  bd : Int
  m1 : Int
  m2 : Int
  sl : Int
instance : Inhabited Ac := ⟨⟨0, 0, 0, 0, 0, 0, 0, 0⟩⟩
def acB (a b : Ac) : Bool := decide (a.id = b.id) && decide (a.tm = b.tm) && decide (a.kd = b.kd) && decide (a.bk = b.bk) && decide (a.bd = b.bd) && decide (a.m1 = b.m1) && decide (a.m2 = b.m2) && decide (a.sl = b.sl)
theorem acB_iff (a b : Ac) : acB a b = true ↔ a = b := by
  cases a; cases b; simp [acB, and_assoc]
instance : DecidableEq Ac := fun a b => decidable_of_iff (acB a b = true) (acB_iff a b)
/-- a duty -/
structure Du where
  mb : Int
  bk : Int
  fr : Int
  to : Int
instance : Inhabited Du := ⟨⟨0, 0, 0, 0⟩⟩
def ltA (a b : Ac) : Prop := a.tm < b.tm ∨ a.tm = b.tm ∧ a.id < b.id
def leA (a b : Ac) : Prop := a.tm < b.tm ∨ a.tm = b.tm ∧ a.id ≤ b.id
instance (a b : Ac) : Decidable (ltA a b) := by unfold ltA; infer_instance
instance (a b : Ac) : Decidable (leA a b) := by unfold leA; infer_instance
theorem ltA_irrefl (a : Ac) : ¬ ltA a a := by unfold ltA; omega
theorem ltA_trans {a b c : Ac} (h : ltA a b) (h' : ltA b c) : ltA a c := by unfold ltA at *; omega
theorem leA_trans {a b c : Ac} (h : leA a b) (h' : leA b c) : leA a c := by unfold leA at *; omega
theorem leA_total (a b : Ac) : leA a b ∨ leA b a := by unfold leA; omega
theorem lt_of_leA {a b : Ac} (h : leA a b) (hn : ¬ (a.tm = b.tm ∧ a.id = b.id)) : ltA a b := by unfold ltA leA at *; omega
/-- acts with one number are one act -/
def OneId (l : List Ac) : Prop := ∀ a ∈ l, ∀ b ∈ l, a.id = b.id → a = b
/-- acts in the order in which they happen, each once -/
def StrA (l : List Ac) : Prop := l.Pairwise ltA
theorem StrA.nodup {l : List Ac} (h : StrA l) : l.Nodup := by
  refine List.Pairwise.imp ?_ h
  intro a b hab e
  subst e
  exact ltA_irrefl _ hab
theorem strA_unique {l m : List Ac} (hl : StrA l) (hm : StrA m) (h : ∀ x, x ∈ l ↔ x ∈ m) : l = m := by
  have hp : l.Perm m := (List.perm_ext_iff_of_nodup hl.nodup hm.nodup).2 h
  exact List.Perm.eq_of_pairwise (le := ltA) (fun a b _ _ h1 h2 => absurd (ltA_trans h1 h2) (ltA_irrefl a)) hl hm hp
/-- equal neighbours once -/
def cpt : List Ac → List Ac
  | [] => []
  | [a] => [a]
  | a :: b :: l => if a = b then cpt (b :: l) else a :: cpt (b :: l)
theorem cpt_mem : ∀ (l : List Ac) (x : Ac), x ∈ cpt l ↔ x ∈ l
  | [], x => by simp [cpt]
  | [a], x => by simp [cpt]
  | a :: b :: l, x => by
      have ih := cpt_mem (b :: l) x
      unfold cpt
      by_cases e : a = b
      · rw [if_pos e, ih, e]; simp
      · rw [if_neg e, List.mem_cons, ih]; simp
theorem cpt_str : ∀ (l : List Ac), l.Pairwise leA → OneId l → StrA (cpt l)
  | [], _, _ => List.Pairwise.nil
  | [a], _, _ => List.pairwise_singleton _ _
  | a :: b :: l, hs, h1 => by
      have hs' := (List.pairwise_cons.1 hs)
      have ih := cpt_str (b :: l) hs'.2 fun x hx y hy => h1 x (List.mem_cons_of_mem _ hx) y (List.mem_cons_of_mem _ hy)
      unfold cpt
      by_cases e : a = b
      · rw [if_pos e]; exact ih
      · rw [if_neg e]
        refine List.pairwise_cons.2 ⟨fun x hx => ?_, ih⟩
        have hx' := (cpt_mem _ _).1 hx
        refine lt_of_leA (hs'.1 x hx') fun hh => ?_
        have eax : a = x := h1 a (by simp) x (List.mem_cons_of_mem _ hx') hh.2
        -- then b, between them, is the same act
        have hab := hs'.1 b (by simp)
        have hbx : leA b x := by
          rcases List.mem_cons.1 hx' with rfl | hx2
          · unfold leA; omega
          · exact (List.pairwise_cons.1 hs'.2).1 x hx2
        rw [← eax] at hbx
        exact e (h1 a (by simp) b (by simp) (by unfold leA at hab hbx; omega))
def leAB (a b : Ac) : Bool := decide (leA a b)
/-- the acts of a list in the order in which they happen, each once -/
def hrd (l : List Ac) : List Ac := cpt (l.mergeSort leAB)
theorem hrd_mem (l : List Ac) (x : Ac) : x ∈ hrd l ↔ x ∈ l := by
  unfold hrd; rw [cpt_mem, (List.mergeSort_perm l leAB).mem_iff]
theorem hrd_str {l : List Ac} (h : OneId l) : StrA (hrd l) := by
  refine cpt_str _ ?_ fun a ha b hb => h a ((List.mergeSort_perm l leAB).mem_iff.1 ha) b ((List.mergeSort_perm l leAB).mem_iff.1 hb)
  have := List.pairwise_mergeSort (le := leAB) (fun a b c h1 h2 => by unfold leAB at *; simp only [decide_eq_true_eq] at *; exact leA_trans h1 h2) (fun a b => by unfold leAB; simp only [Bool.or_eq_true, decide_eq_true_eq]; exact leA_total a b) l
  exact this.imp fun {a b} hh => by unfold leAB at hh; simpa using hh
theorem hrd_eq {l m : List Ac} (hl : OneId l) (h : ∀ x, x ∈ l ↔ x ∈ m) : hrd m = hrd l := by
  have hm : OneId m := fun a ha b hb => hl a ((h a).2 ha) b ((h b).2 hb)
  exact strA_unique (hrd_str hm) (hrd_str hl) fun x => by rw [hrd_mem, hrd_mem, h]
/-- a strict list with the same acts is the list -/
theorem hrd_of {l m : List Ac} (hl : OneId l) (hm : StrA m) (h : ∀ x, x ∈ m ↔ x ∈ l) : m = hrd l :=
  strA_unique hm (hrd_str hl) fun x => by rw [hrd_mem, h]
/-- a period -/
structure Pe where
  bk : Int
  sl : Int
  fr : Int
  wh : Int
  en : Int
  br : Bool
instance : Inhabited Pe := ⟨⟨0, 0, 0, 0, 0, false⟩⟩
/-- a journey: the acts that happened, the periods, and in which one a sealed basket is -/
structure Jn where
  past : List Ac
  ps : List Pe
  sd : Int → Option Nat
def Jn.zero : Jn := ⟨[], [], fun _ => none⟩
/-- where a bird is after the past acts of the minutes up to one -/
def whrS (m b : Int) (k : Int) (a : Ac) : Int := if m < a.tm ∨ a.bd ≠ b then k else if a.kd = 1 then a.bk else if a.kd = 2 then -1 else k
def whr (l : List Ac) (m b : Int) : Int := l.foldl (whrS m b) (-1)
/-- what a look at a period makes of it, and whether it is in its place -/
def lookP (p : Pe) (a : Ac) : Pe × Bool :=
  let p := if a.kd = 5 then { p with en := min p.en a.tm } else p
  if a.sl = p.sl then ({ p with wh := a.tm }, !p.br)
  else if p.br then (p, true)
  else ({ p with br := true, en := a.tm }, decide (p.wh < a.tm))
/-- an act happens; false: it is out of place -/
def hap (E : Int) (j : Jn) (a : Ac) : Jn × Bool :=
  if a.kd = 1 then (j, (j.sd a.bk).isNone && decide (whr j.past a.tm a.bd < 0))
  else if a.kd = 2 then (j, (j.sd a.bk).isNone && decide (whr j.past a.tm a.bd = a.bk))
  else if a.kd = 3 then
    if (j.sd a.bk).isNone then ({ j with ps := j.ps ++ [⟨a.bk, a.sl, a.tm, a.tm, E, false⟩], sd := fun b => if b = a.bk then some j.ps.length else j.sd b }, true) else (j, false)
  else match j.sd a.bk with
    | none => (j, false)
    | some i => ({ j with ps := j.ps.set i (lookP (j.ps.getD i default) a).1, sd := if a.kd = 5 then fun b => if b = a.bk then none else j.sd b else j.sd }, (lookP (j.ps.getD i default) a).2)
/-- the journey after acts that are all in their place -/
def run (E : Int) : Jn → List Ac → Option Jn
  | j, [] => some j
  | j, a :: l => if (hap E j a).2 then run E { (hap E j a).1 with past := (hap E j a).1.past ++ [a] } l else none
theorem hap_past (E : Int) (j : Jn) (a : Ac) : (hap E j a).1.past = j.past := by
  unfold hap; split
  · rfl
  split
  · rfl
  split
  · split <;> rfl
  split <;> rfl
theorem run_past : ∀ (E : Int) (l : List Ac) (j k : Jn), run E j l = some k → k.past = j.past ++ l
  | E, [], j, k, h => by simp [run] at h; simp [h]
  | E, a :: l, j, k, h => by
      unfold run at h
      by_cases hh : (hap E j a).2 = true
      · rw [if_pos hh] at h
        have := run_past E l _ k h
        rw [this]; simp [hap_past]
      · rw [if_neg hh] at h; exact absurd h (by simp)
theorem run_append : ∀ (E : Int) (l m : List Ac) (j : Jn), run E j (l ++ m) = (run E j l).bind fun k => run E k m
  | E, [], m, j => by simp [run]
  | E, a :: l, m, j => by
      simp only [List.cons_append, run]
      by_cases hh : (hap E j a).2 = true
      · rw [if_pos hh, if_pos hh]; exact run_append E l m _
      · rw [if_neg hh, if_neg hh]; rfl
/-- an act that is right by itself: B baskets, N birds, E the end -/
def actB (B N E : Int) (a : Ac) : Bool :=
  (decide (0 ≤ a.id) && decide (a.id ≤ 99)) && (decide (0 ≤ a.tm) && decide (a.tm ≤ E)) && (decide (0 ≤ a.bk) && decide (a.bk ≤ B - 1)) &&
  (if a.kd = 1 then (decide (0 ≤ a.bd) && decide (a.bd ≤ N - 1)) && (decide (0 ≤ a.m1) && decide (a.m1 ≤ 99)) && (decide (0 ≤ a.m2) && decide (a.m2 ≤ 99)) && !decide (a.m1 = a.m2) && decide (a.sl = 0)
   else if a.kd = 2 then (decide (0 ≤ a.bd) && decide (a.bd ≤ N - 1)) && (decide (a.m1 = 0) && decide (a.m2 = 0)) && decide (a.sl = 0)
   else if a.kd = 3 then decide (a.bd = 0) && (decide (a.m1 = 0) && decide (a.m2 = 0)) && decide (0 < a.sl) && (decide (0 ≤ a.sl) && decide (a.sl ≤ 999))
   else if a.kd = 4 ∨ a.kd = 5 then decide (a.bd = 0) && (decide (a.m1 = 0) && decide (a.m2 = 0)) && (decide (0 ≤ a.sl) && decide (a.sl ≤ 999))
   else false)
theorem actB_bk {B N E : Int} {a : Ac} (h : actB B N E a = true) : 0 ≤ a.bk ∧ a.bk < B := by
  unfold actB at h; simp only [Bool.and_eq_true, decide_eq_true_eq] at h; omega
theorem actB_tm {B N E : Int} {a : Ac} (h : actB B N E a = true) : 0 ≤ a.tm ∧ a.tm ≤ E := by
  unfold actB at h; simp only [Bool.and_eq_true, decide_eq_true_eq] at h; omega
theorem actB_kd {B N E : Int} {a : Ac} (h : actB B N E a = true) : a.kd = 1 ∨ a.kd = 2 ∨ a.kd = 3 ∨ a.kd = 4 ∨ a.kd = 5 := by
  unfold actB at h
  by_cases h1 : a.kd = 1
  · exact .inl h1
  by_cases h2 : a.kd = 2
  · exact .inr (.inl h2)
  by_cases h3 : a.kd = 3
  · exact .inr (.inr (.inl h3))
  by_cases h4 : a.kd = 4 ∨ a.kd = 5
  · exact .inr (.inr (.inr h4))
  · rw [if_neg h1, if_neg h2, if_neg h3, if_neg h4] at h; simp at h
theorem actB_bird {B N E : Int} {a : Ac} (h : actB B N E a = true) (hk : a.kd = 1 ∨ a.kd = 2) : 0 ≤ a.bd ∧ a.bd < N := by
  unfold actB at h
  rcases hk with hk | hk
  · rw [if_pos hk] at h; simp only [Bool.and_eq_true, decide_eq_true_eq] at h; omega
  · rw [if_neg (by omega), if_pos hk] at h; simp only [Bool.and_eq_true, decide_eq_true_eq] at h; omega
theorem actB_seal {B N E : Int} {a : Ac} (h : actB B N E a = true) (hk : a.kd = 3) : 0 < a.sl ∧ a.sl ≤ 999 := by
  unfold actB at h
  rw [if_neg (by omega), if_neg (by omega), if_pos hk] at h; simp only [Bool.and_eq_true, decide_eq_true_eq] at h; omega
/-- where a bird is after all past acts -/
def wrA (l : List Ac) (b : Int) : Int := l.foldl (fun k a => if a.bd ≠ b then k else if a.kd = 1 then a.bk else if a.kd = 2 then -1 else k) (-1)
theorem whr_fold (m b : Int) : ∀ (l : List Ac), (∀ a ∈ l, a.tm ≤ m) → ∀ z0 : Int, l.foldl (whrS m b) z0 = l.foldl (fun k a => if a.bd ≠ b then k else if a.kd = 1 then a.bk else if a.kd = 2 then -1 else k) z0
  | [], _, z0 => rfl
  | a :: l, h, z0 => by
      have ha := h a (by simp)
      simp only [List.foldl_cons]
      have e : whrS m b z0 a = if a.bd ≠ b then z0 else if a.kd = 1 then a.bk else if a.kd = 2 then -1 else z0 := by
        unfold whrS
        by_cases hb : a.bd ≠ b
        · rw [if_pos (.inr hb), if_pos hb]
        · rw [if_neg (by omega), if_neg hb]
      rw [e]; exact whr_fold m b l (fun x hx => h x (List.mem_cons_of_mem _ hx)) _
theorem whr_all {l : List Ac} {m : Int} (h : ∀ a ∈ l, a.tm ≤ m) (b : Int) : whr l m b = wrA l b := whr_fold m b l h (-1)
theorem wrA_snoc (l : List Ac) (a : Ac) (b : Int) : wrA (l ++ [a]) b = if a.bd ≠ b then wrA l b else if a.kd = 1 then a.bk else if a.kd = 2 then -1 else wrA l b := by
  unfold wrA; rw [List.foldl_append]; rfl
theorem whr_snoc (l : List Ac) (a : Ac) (m b : Int) : whr (l ++ [a]) m b = whrS m b (whr l m b) a := by
  unfold whr; rw [List.foldl_append]; rfl
theorem whr_ge {l : List Ac} (h : ∀ a ∈ l, 0 ≤ a.bk) (m b : Int) : whr l m b = -1 ∨ 0 ≤ whr l m b := by
  unfold whr
  have : ∀ z0 : Int, (z0 = -1 ∨ 0 ≤ z0) → (List.foldl (whrS m b) z0 l = -1 ∨ 0 ≤ List.foldl (whrS m b) z0 l) := by
    induction l with
    | nil => exact fun z0 hz => hz
    | cons a l ih =>
        intro z0 hz
        simp only [List.foldl_cons]
        refine ih (fun x hx => h x (List.mem_cons_of_mem _ hx)) _ ?_
        have := h a (by simp)
        unfold whrS; split
        · exact hz
        split
        · omega
        split <;> omega
  exact this _ (.inl rfl)
/-- the reference's state -/
structure Rs where
  wr : Int → Int
  se : Int → Int
  si : Int → Int
  wg : Int → Int
def up (f : Int → Int) (k v : Int) : Int → Int := fun x => if x = k then v else f x
theorem up_self (f : Int → Int) (k v : Int) : up f k v k = v := if_pos rfl
theorem up_ne (f : Int → Int) {k x : Int} (v : Int) (h : x ≠ k) : up f k v x = f x := if_neg h
def Rs.zero : Rs := ⟨fun _ => -1, fun _ => 0, fun _ => 0, fun _ => 0⟩
def hapR (s : Rs) (a : Ac) : Rs × Bool :=
  if a.kd = 1 then if s.wr a.bd ≠ -1 ∨ s.se a.bk ≠ 0 then (s, false) else ({ s with wr := up s.wr a.bd a.bk }, true)
  else if a.kd = 2 then if s.wr a.bd ≠ a.bk ∨ s.se a.bk ≠ 0 then (s, false) else ({ s with wr := up s.wr a.bd (-1) }, true)
  else if a.kd = 3 then if s.se a.bk ≠ 0 then (s, false) else ({ s with se := up s.se a.bk a.sl, si := up s.si a.bk a.tm, wg := up s.wg a.bk 0 }, true)
  else if s.se a.bk = 0 ∨ a.sl = s.se a.bk ∧ s.wg a.bk = 1 then (s, false)
  else if a.sl = s.se a.bk then ({ s with si := up s.si a.bk a.tm, se := if a.kd = 5 then up s.se a.bk 0 else s.se }, true)
  else if s.wg a.bk = 0 ∧ s.si a.bk = a.tm then (s, false)
  else ({ s with wg := up s.wg a.bk 1, se := if a.kd = 5 then up s.se a.bk 0 else s.se }, true)
/-- the journey and the reference's state say the same -/
structure Rel (j : Jn) (s : Rs) : Prop where
  wr : ∀ b, s.wr b = wrA j.past b
  bk : ∀ a ∈ j.past, 0 ≤ a.bk
  non : ∀ b, j.sd b = none → s.se b = 0
  som : ∀ b i, j.sd b = some i → i < j.ps.length ∧ (j.ps.getD i default).bk = b ∧ 0 < (j.ps.getD i default).sl ∧ s.se b = (j.ps.getD i default).sl ∧ s.si b = (j.ps.getD i default).wh ∧ s.wg b = (if (j.ps.getD i default).br then 1 else 0) ∧ ∀ a : Ac, (∀ x ∈ j.past, x.tm ≤ a.tm) → (j.ps.getD i default).wh ≤ a.tm
theorem Rel.zero : Rel Jn.zero Rs.zero := ⟨fun _ => rfl, fun a h => absurd h (by simp [Jn.zero]), fun _ _ => rfl, fun b i h => absurd h (by simp [Jn.zero])⟩
/-- the journey with one more act in its past -/
def step (E : Int) (j : Jn) (a : Ac) : Jn := { (hap E j a).1 with past := j.past ++ [a] }
theorem getD_set_self {α : Type} [Inhabited α] (l : List α) (i : Nat) (x : α) (h : i < l.length) : (l.set i x).getD i default = x := by
  simp [List.getD, h]
theorem getD_set_ne {α : Type} [Inhabited α] (l : List α) (i k : Nat) (x : α) (h : i ≠ k) : (l.set i x).getD k default = l.getD k default := by
  simp [List.getD, List.getElem?_set, h]
theorem getD_snoc_self {α : Type} [Inhabited α] (l : List α) (x : α) : (l ++ [x]).getD l.length default = x := by simp [List.getD]
theorem getD_snoc_lt {α : Type} [Inhabited α] (l : List α) (x : α) {i : Nat} (h : i < l.length) : (l ++ [x]).getD i default = l.getD i default := by
  simp [List.getD, List.getElem?_append_left h]
theorem lookP_bk (p : Pe) (a : Ac) : (lookP p a).1.bk = p.bk ∧ (lookP p a).1.sl = p.sl ∧ (lookP p a).1.fr = p.fr := by
  unfold lookP
  by_cases h5 : a.kd = 5 <;> simp only [h5, if_true, if_false]
  · split
    · exact ⟨rfl, rfl, rfl⟩
    · split <;> exact ⟨rfl, rfl, rfl⟩
  · split
    · exact ⟨rfl, rfl, rfl⟩
    · split <;> exact ⟨rfl, rfl, rfl⟩
theorem lookP_eq {p : Pe} {a : Ac} (h : a.sl = p.sl) : (lookP p a).1.wh = a.tm ∧ (lookP p a).1.br = p.br ∧ (lookP p a).2 = !p.br := by
  unfold lookP
  by_cases h5 : a.kd = 5 <;> simp [h5, h]
theorem lookP_br {p : Pe} {a : Ac} (h : a.sl ≠ p.sl) (hb : p.br = true) : (lookP p a).1.wh = p.wh ∧ (lookP p a).1.br = true ∧ (lookP p a).2 = true := by
  unfold lookP
  by_cases h5 : a.kd = 5 <;> simp [h5, h, hb]
theorem lookP_ne {p : Pe} {a : Ac} (h : a.sl ≠ p.sl) (hb : p.br = false) : (lookP p a).1.wh = p.wh ∧ (lookP p a).1.br = true ∧ (lookP p a).2 = decide (p.wh < a.tm) := by
  unfold lookP
  by_cases h5 : a.kd = 5 <;> simp [h5, h, hb]
theorem Rel.step {B N E : Int} {j : Jn} {s : Rs} (h : Rel j s) {a : Ac} (ha : actB B N E a = true) (ht : ∀ x ∈ j.past, x.tm ≤ a.tm) (E' : Int) : (hap E' j a).2 = (hapR s a).2 ∧ ((hapR s a).2 = true → Rel (step E' j a) (hapR s a).1) := by
  have hbk := (actB_bk ha).1
  have hw := whr_all ht a.bd
  have hge := whr_ge h.bk a.tm a.bd
  have hwr := h.wr a.bd
  have hbk' : ∀ x ∈ j.past ++ [a], 0 ≤ x.bk := fun x hx => by
    rcases List.mem_append.1 hx with hx | hx
    · exact h.bk x hx
    · rw [List.mem_singleton.1 hx]; exact hbk
  have hse : ∀ b, (j.sd b).isNone = decide (s.se b = 0) := fun b => by
    cases e : j.sd b with
    | none => simp [h.non b e]
    | some i => have := h.som b i e; simp; omega
  have hmo : ∀ x : Ac, (∀ y ∈ j.past ++ [a], y.tm ≤ x.tm) → (∀ y ∈ j.past, y.tm ≤ x.tm) ∧ a.tm ≤ x.tm := fun x hx => ⟨fun y hy => hx y (List.mem_append_left _ hy), hx a (by simp)⟩
  rcases actB_kd ha with hk | hk | hk | hk
  · -- a bird is put in
    have e1 : hap E' j a = (j, (j.sd a.bk).isNone && decide (whr j.past a.tm a.bd < 0)) := by unfold hap; rw [if_pos hk]
    have e2 : hapR s a = if s.wr a.bd ≠ -1 ∨ s.se a.bk ≠ 0 then (s, false) else ({ s with wr := up s.wr a.bd a.bk }, true) := by unfold hapR; rw [if_pos hk]
    have e3 : (hap E' j a).2 = (hapR s a).2 := by
      rw [e1, e2, hse]
      by_cases c : s.wr a.bd ≠ -1 ∨ s.se a.bk ≠ 0
      · rw [if_pos c]; simp only [Bool.and_eq_false_imp, decide_eq_true_eq, decide_eq_false_iff_not]; omega
      · rw [if_neg c]; simp only [Bool.and_eq_true, decide_eq_true_eq]; omega
    refine ⟨e3, fun ht' => ?_⟩
    have c : ¬ (s.wr a.bd ≠ -1 ∨ s.se a.bk ≠ 0) := fun c => by rw [e2, if_pos c] at ht'; simp at ht'
    have es : Go.Proofs.YtabnpimidhlbiaaGreat.step E' j a = { j with past := j.past ++ [a] } := by unfold Go.Proofs.YtabnpimidhlbiaaGreat.step; rw [e1]
    rw [es, e2, if_neg c]
    refine ⟨fun b => ?_, hbk', h.non, fun b i hi => ?_⟩
    · show up s.wr a.bd a.bk b = wrA (j.past ++ [a]) b
      rw [wrA_snoc]
      by_cases eb : b = a.bd
      · rw [eb, up_self, if_neg (by omega), if_pos hk]
      · rw [up_ne _ _ eb, if_pos (fun e => eb e.symm), h.wr]
    · obtain ⟨q1, q2, q3, q4, q5, q6, q7⟩ := h.som b i hi
      exact ⟨q1, q2, q3, q4, q5, q6, fun x hx => q7 x (hmo x hx).1⟩
  · -- a bird is taken out
    have e1 : hap E' j a = (j, (j.sd a.bk).isNone && decide (whr j.past a.tm a.bd = a.bk)) := by unfold hap; rw [if_neg (by omega), if_pos hk]
    have e2 : hapR s a = if s.wr a.bd ≠ a.bk ∨ s.se a.bk ≠ 0 then (s, false) else ({ s with wr := up s.wr a.bd (-1) }, true) := by unfold hapR; rw [if_neg (by omega), if_pos hk]
    have e3 : (hap E' j a).2 = (hapR s a).2 := by
      rw [e1, e2, hse]
      by_cases c : s.wr a.bd ≠ a.bk ∨ s.se a.bk ≠ 0
      · rw [if_pos c]; simp only [Bool.and_eq_false_imp, decide_eq_true_eq, decide_eq_false_iff_not]; omega
      · rw [if_neg c]; simp only [Bool.and_eq_true, decide_eq_true_eq]; omega
    refine ⟨e3, fun ht' => ?_⟩
    have c : ¬ (s.wr a.bd ≠ a.bk ∨ s.se a.bk ≠ 0) := fun c => by rw [e2, if_pos c] at ht'; simp at ht'
    have es : Go.Proofs.YtabnpimidhlbiaaGreat.step E' j a = { j with past := j.past ++ [a] } := by unfold Go.Proofs.YtabnpimidhlbiaaGreat.step; rw [e1]
    rw [es, e2, if_neg c]
    refine ⟨fun b => ?_, hbk', h.non, fun b i hi => ?_⟩
    · show up s.wr a.bd (-1) b = wrA (j.past ++ [a]) b
      rw [wrA_snoc]
      by_cases eb : b = a.bd
      · rw [eb, up_self, if_neg (by omega), if_neg (by omega), if_pos hk]
      · rw [up_ne _ _ eb, if_pos (fun e => eb e.symm), h.wr]
    · obtain ⟨q1, q2, q3, q4, q5, q6, q7⟩ := h.som b i hi
      exact ⟨q1, q2, q3, q4, q5, q6, fun x hx => q7 x (hmo x hx).1⟩
  · -- a basket is sealed
    have hsl := actB_seal ha hk
    have e2 : hapR s a = if s.se a.bk ≠ 0 then (s, false) else ({ s with se := up s.se a.bk a.sl, si := up s.si a.bk a.tm, wg := up s.wg a.bk 0 }, true) := by unfold hapR; rw [if_neg (by omega), if_neg (by omega), if_pos hk]
    have e1 : hap E' j a = if (j.sd a.bk).isNone then ({ j with ps := j.ps ++ [⟨a.bk, a.sl, a.tm, a.tm, E', false⟩], sd := fun b => if b = a.bk then some j.ps.length else j.sd b }, true) else (j, false) := by unfold hap; rw [if_neg (by omega), if_neg (by omega), if_pos hk]
    by_cases c : s.se a.bk ≠ 0
    · have hn : (j.sd a.bk).isNone = false := by rw [hse]; simp [c]
      rw [e1, e2, if_pos c, hn]
      exact ⟨rfl, fun hh => absurd hh (by simp)⟩
    · have hn : (j.sd a.bk).isNone = true := by rw [hse]; simp only [decide_eq_true_eq]; omega
      rw [if_pos hn] at e1
      rw [if_neg c] at e2
      refine ⟨by rw [e1, e2], fun _ => ?_⟩
      have es : Go.Proofs.YtabnpimidhlbiaaGreat.step E' j a = ⟨j.past ++ [a], j.ps ++ [⟨a.bk, a.sl, a.tm, a.tm, E', false⟩], fun b => if b = a.bk then some j.ps.length else j.sd b⟩ := by unfold Go.Proofs.YtabnpimidhlbiaaGreat.step; rw [e1]
      rw [es, e2]
      refine ⟨fun b => ?_, hbk', fun b hb => ?_, fun b i hi => ?_⟩
      · show s.wr b = wrA (j.past ++ [a]) b
        rw [wrA_snoc, h.wr, if_neg (by omega : ¬ a.kd = 1), if_neg (by omega : ¬ a.kd = 2), ite_self]
      · show up s.se a.bk a.sl b = 0
        by_cases eb : b = a.bk
        · simp [eb] at hb
        · rw [up_ne _ _ eb]; exact h.non b (by simpa [eb] using hb)
      · by_cases eb : b = a.bk
        · have ei : i = j.ps.length := by simp [eb] at hi; exact hi.symm
          have eg : (j.ps ++ [(⟨a.bk, a.sl, a.tm, a.tm, E', false⟩ : Pe)]).getD i default = ⟨a.bk, a.sl, a.tm, a.tm, E', false⟩ := by rw [ei]; exact getD_snoc_self _ _
          show i < (j.ps ++ [_]).length ∧ _
          refine ⟨by rw [ei]; simp, ?_⟩
          simp only [eg]
          refine ⟨eb.symm, hsl.1, ?_, ?_, ?_, fun x hx => (hmo x hx).2⟩
          · rw [eb]; exact up_self _ _ _
          · rw [eb]; exact up_self _ _ _
          · rw [eb]; exact up_self _ _ _
        · have hi' : j.sd b = some i := by simpa [eb] using hi
          obtain ⟨q1, q2, q3, q4, q5, q6, q7⟩ := h.som b i hi'
          have eg : (j.ps ++ [(⟨a.bk, a.sl, a.tm, a.tm, E', false⟩ : Pe)]).getD i default = j.ps.getD i default := getD_snoc_lt _ _ q1
          refine ⟨by simp; omega, ?_⟩
          simp only [eg]
          refine ⟨q2, q3, ?_, ?_, ?_, fun x hx => q7 x (hmo x hx).1⟩
          · exact (up_ne _ _ eb).trans q4
          · exact (up_ne _ _ eb).trans q5
          · exact (up_ne _ _ eb).trans q6
  · -- a look, or the seal is taken off
    have e2 : hapR s a = if s.se a.bk = 0 ∨ a.sl = s.se a.bk ∧ s.wg a.bk = 1 then (s, false) else if a.sl = s.se a.bk then ({ s with si := up s.si a.bk a.tm, se := if a.kd = 5 then up s.se a.bk 0 else s.se }, true) else if s.wg a.bk = 0 ∧ s.si a.bk = a.tm then (s, false) else ({ s with wg := up s.wg a.bk 1, se := if a.kd = 5 then up s.se a.bk 0 else s.se }, true) := by unfold hapR; rw [if_neg (by omega), if_neg (by omega), if_neg (by omega)]
    cases hd : j.sd a.bk with
    | none =>
        have e1 : hap E' j a = (j, false) := by unfold hap; rw [if_neg (by omega), if_neg (by omega), if_neg (by omega), hd]
        have h0 := h.non _ hd
        rw [e1, e2, if_pos (.inl h0)]
        exact ⟨rfl, fun hh => absurd hh (by simp)⟩
    | some i =>
        obtain ⟨q1, q2, q3, q4, q5, q6, q7⟩ := h.som _ i hd
        have q8 := q7 a ht
        obtain ⟨k1, k2, _⟩ := lookP_bk (j.ps.getD i default) a
        have e1 : hap E' j a = ({ j with ps := j.ps.set i (lookP (j.ps.getD i default) a).1, sd := if a.kd = 5 then fun b => if b = a.bk then none else j.sd b else j.sd }, (lookP (j.ps.getD i default) a).2) := by
          unfold hap; rw [if_neg (by omega), if_neg (by omega), if_neg (by omega), hd]
        -- what follows for a state that agrees with the new period
        have fin : ∀ s' : Rs, s'.wr = s.wr → s'.se = (if a.kd = 5 then up s.se a.bk 0 else s.se) → (∀ b, b ≠ a.bk → s'.si b = s.si b ∧ s'.wg b = s.wg b) → s'.si a.bk = (lookP (j.ps.getD i default) a).1.wh → s'.wg a.bk = (if (lookP (j.ps.getD i default) a).1.br then 1 else 0) → ((lookP (j.ps.getD i default) a).1.wh ≤ a.tm) → Rel (Go.Proofs.YtabnpimidhlbiaaGreat.step E' j a) s' := by
          intro s' w1 w2 w3 w4 w5 w6
          have es : Go.Proofs.YtabnpimidhlbiaaGreat.step E' j a = ⟨j.past ++ [a], j.ps.set i (lookP (j.ps.getD i default) a).1, if a.kd = 5 then fun b => if b = a.bk then none else j.sd b else j.sd⟩ := by unfold Go.Proofs.YtabnpimidhlbiaaGreat.step; rw [e1]
          rw [es]
          have sub : ∀ b k, (if a.kd = 5 then fun b => if b = a.bk then none else j.sd b else j.sd) b = some k → j.sd b = some k ∧ ¬ (a.kd = 5 ∧ b = a.bk) := by
            intro b k hk'
            by_cases h5 : a.kd = 5
            · rw [if_pos h5] at hk'
              by_cases eb : b = a.bk
              · simp [eb] at hk'
              · exact ⟨by simpa [eb] using hk', fun hh => eb hh.2⟩
            · rw [if_neg h5] at hk'; exact ⟨hk', fun hh => h5 hh.1⟩
          refine ⟨fun b => ?_, hbk', fun b hb => ?_, fun b k hb => ?_⟩
          · show s'.wr b = wrA (j.past ++ [a]) b
            rw [w1, wrA_snoc, h.wr, if_neg (by omega : ¬ a.kd = 1), if_neg (by omega : ¬ a.kd = 2), ite_self]
          · rw [w2]
            by_cases h5 : a.kd = 5
            · rw [if_pos h5]
              by_cases eb : b = a.bk
              · rw [eb]; exact up_self _ _ _
              · rw [up_ne _ _ eb]
                exact h.non b (by simpa [h5, eb] using hb)
            · rw [if_neg h5]; exact h.non b (by simpa [h5] using hb)
          · obtain ⟨hb', hn5⟩ := sub b k hb
            have hse' : s'.se b = s.se b := by
              rw [w2]
              by_cases h5 : a.kd = 5
              · rw [if_pos h5]; exact up_ne _ _ fun eb => hn5 ⟨h5, eb⟩
              · rw [if_neg h5]
            obtain ⟨p1, p2, p3, p4, p5, p6, p7⟩ := h.som b k hb'
            by_cases eb : b = a.bk
            · have ek : k = i := by rw [eb, hd] at hb'; exact (Option.some.inj hb').symm
              have eg : (j.ps.set i (lookP (j.ps.getD i default) a).1).getD k default = (lookP (j.ps.getD i default) a).1 := by rw [ek]; exact getD_set_self _ _ _ q1
              refine ⟨by rw [ek]; simpa using q1, ?_⟩
              simp only [eg]
              refine ⟨by rw [k1, q2, eb], by rw [k2]; exact q3, by rw [hse', eb, q4, k2], by rw [eb, w4], by rw [eb, w5], fun x hx => ?_⟩
              have := (hmo x hx).2
              omega
            · have ek : i ≠ k := fun e => by rw [← e, q2] at p2; exact eb p2.symm
              have eg : (j.ps.set i (lookP (j.ps.getD i default) a).1).getD k default = j.ps.getD k default := getD_set_ne _ _ _ _ ek
              refine ⟨by simpa using p1, ?_⟩
              simp only [eg]
              exact ⟨p2, p3, by rw [hse']; exact p4, by rw [(w3 b eb).1]; exact p5, by rw [(w3 b eb).2]; exact p6, fun x hx => p7 x (hmo x hx).1⟩
        by_cases c1 : a.sl = (j.ps.getD i default).sl
        · obtain ⟨l1, l2, l3⟩ := lookP_eq c1
          cases hb : (j.ps.getD i default).br with
          | true =>
              have c : s.se a.bk = 0 ∨ a.sl = s.se a.bk ∧ s.wg a.bk = 1 := .inr ⟨by rw [q4]; exact c1, by rw [q6, hb]; rfl⟩
              rw [e1, e2, if_pos c]
              exact ⟨by show (lookP _ a).2 = false; rw [l3, hb]; rfl, fun hh => absurd hh (by simp)⟩
          | false =>
              have hw0 : s.wg a.bk = 0 := by rw [q6, hb]; rfl
              have c : ¬ (s.se a.bk = 0 ∨ a.sl = s.se a.bk ∧ s.wg a.bk = 1) := by omega
              rw [if_neg c, if_pos (by rw [q4]; exact c1)] at e2
              refine ⟨by rw [e1, e2]; show (lookP _ a).2 = true; rw [l3, hb]; rfl, fun _ => ?_⟩
              rw [e2]
              refine fin _ rfl rfl (fun b eb => ⟨up_ne _ _ eb, rfl⟩) ?_ ?_ (by omega)
              · rw [l1]; exact up_self _ _ _
              · rw [l2, hb]; exact hw0
        · have c1' : ¬ a.sl = s.se a.bk := by rw [q4]; exact c1
          have c : ¬ (s.se a.bk = 0 ∨ a.sl = s.se a.bk ∧ s.wg a.bk = 1) := by omega
          rw [if_neg c, if_neg c1'] at e2
          cases hb : (j.ps.getD i default).br with
          | true =>
              obtain ⟨l1, l2, l3⟩ := lookP_br c1 hb
              have hw1 : s.wg a.bk = 1 := by rw [q6, hb]; rfl
              rw [if_neg (by omega)] at e2
              refine ⟨by rw [e1, e2]; exact l3, fun _ => ?_⟩
              rw [e2]
              refine fin _ rfl rfl (fun b eb => ⟨rfl, up_ne _ _ eb⟩) ?_ ?_ (by omega)
              · rw [l1]; exact q5
              · rw [l2]; exact up_self _ _ _
          | false =>
              obtain ⟨l1, l2, l3⟩ := lookP_ne c1 hb
              have hw0 : s.wg a.bk = 0 := by rw [q6, hb]; rfl
              by_cases ct : s.si a.bk = a.tm
              · rw [if_pos ⟨hw0, ct⟩] at e2
                rw [e1, e2]
                exact ⟨by show (lookP _ a).2 = false; rw [l3, decide_eq_false_iff_not]; omega, fun hh => absurd hh (by simp)⟩
              · rw [if_neg (by omega)] at e2
                refine ⟨by rw [e1, e2]; show (lookP _ a).2 = true; rw [l3, decide_eq_true_eq]; omega, fun _ => ?_⟩
                rw [e2]
                refine fin _ rfl rfl (fun b eb => ⟨rfl, up_ne _ _ eb⟩) ?_ ?_ (by omega)
                · rw [l1]; exact q5
                · rw [l2]; exact up_self _ _ _
end Go.Proofs.YtabnpimidhlbiaaGreat

set_option linter.unusedSimpArgs false
set_option linter.unusedVariables false
namespace Go.Proofs.YtabnpimidhlbiaaGreat
open Go.RowKit Go.Shelf
attribute [local go_sem] Oper.semAt_some
def Ac.v (x : Ac) : Array Value := #[.int .i64 x.id, .int .i64 x.tm, .int .i64 x.kd, .int .i64 x.bk, .int .i64 x.bd, .int .i64 x.m1, .int .i64 x.m2, .int .i64 x.sl]
def Du.v (x : Du) : Array Value := #[.int .i64 x.mb, .int .i64 x.bk, .int .i64 x.fr, .int .i64 x.to]
/-- a row of structs: element i's cells -/
def RowE {α : Type} [Inhabited α] (v : α → Array Value) (k : Nat) (W : World) (a : Option Addr) (l : List α) : Prop :=
  l.length = 0 ∨ ∃ g off, a = some ⟨g, off, none⟩ ∧ g < W.heap.size ∧ ∀ i, i < l.length → ∀ r, r < k → W.cell? ⟨g, off + i * k + r, none⟩ = (v (l.getD i default))[r]?
theorem RowE.below {α : Type} [Inhabited α] {v : α → Array Value} {k : Nat} {W W' : World} {a : Option Addr} {l : List α} (h : RowE v k W a l) (hG : G W W') : RowE v k W' a l := by
  rcases h with h | ⟨g, off, h1, h2, h3⟩
  · exact .inl h
  · exact .inr ⟨g, off, h1, Nat.lt_of_lt_of_le h2 hG.size, fun i hi r hr => ((bcellB hG).1 g _ h2).trans (h3 i hi r hr)⟩
/-- a convoy as it lies -/
structure Cv where
  bks : Int
  bds : Int
  aa : Option Addr
  ac : Nat
  acts : List Ac
  da : Option Addr
  dc : Nat
  duties : List Du
  en : Int
def Cv.v (c : Cv) : Array Value := #[.int .i64 c.bks, .int .i64 c.bds, .slice c.aa c.acts.length c.ac, .slice c.da c.duties.length c.dc, .int .i64 c.en]
structure Cv.At (c : Cv) (W : World) : Prop where
  ra : RowE Ac.v 8 W c.aa c.acts
  rd : RowE Du.v 4 W c.da c.duties
  na : c.acts.length ≤ 1000
  nd : c.duties.length ≤ 1000
  b1 : IntKind.i64.wrap (c.bks - 1) = c.bks - 1
  b2 : IntKind.i64.wrap (c.bds - 1) = c.bds - 1
theorem Cv.At.keep {c : Cv} {W W' : World} (h : c.At W) (hG : G W W') : c.At W' := ⟨h.ra.below hG, h.rd.below hG, h.na, h.nd, h.b1, h.b2⟩
/-- all elements -/
def allU (p : Nat → Bool) (n : Nat) : Bool := !anyU (fun i => !p i) n
theorem allU_iff {p : Nat → Bool} {n : Nat} : allU p n = true ↔ ∀ i, i < n → p i = true := by
  unfold allU anyU
  rw [Bool.not_eq_true', List.any_eq_false]
  exact ⟨fun h i hi => by simpa using h i (List.mem_range.2 hi), fun h i hi => by simpa using h i (List.mem_range.1 hi)⟩
def upB (n l : Int) : Bool := decide (0 ≤ n) && decide (n ≤ l)
theorem upTo_any (n l : Int) (w : World) : Calls Tryz.prog 75 #[.int .i64 n, .int .i64 l] w fun e w' => e = .returned (.bool (upB n l)) ∧ G w w' := by
  by_cases h1 : 0 ≤ n
  · go_enter Tryz.func75, Tryz.ntmps75
    go_wp2
    go_ret
    exact ⟨by simp [upB, h1], G.rf _⟩
  · go_enter Tryz.func75, Tryz.ntmps75
    go_wp2
    go_ret
    exact ⟨by rw [show upB n l = false by unfold upB; simp; omega]; rfl, G.rf _⟩
theorem member_any (n : Int) (w : World) : Calls Tryz.prog 39 #[.int .i64 n] w fun e w' => e = .returned (.bool (upB n 99)) ∧ G w w' := by
  have HU := Lib.hid (fun W => upTo_any n 99 W)
  go_enter Tryz.func39, Tryz.ntmps39
  go_wp2_with (go_at_call 75; refine (HU.out _).mono ?_; rintro e w1 ⟨rfl, hG1⟩)
  go_ret
  exact ⟨rfl, hG1⟩
theorem minute_any (n : Int) (w : World) : Calls Tryz.prog 58 #[.int .i64 n] w fun e w' => e = .returned (.bool (upB n 9999)) ∧ G w w' := by
  have HU := Lib.hid (fun W => upTo_any n 9999 W)
  go_enter Tryz.func58, Tryz.ntmps58
  go_wp2_with (go_at_call 75; refine (HU.out _).mono ?_; rintro e w1 ⟨rfl, hG1⟩)
  go_ret
  exact ⟨rfl, hG1⟩
set_option maxRecDepth 100000 in
set_option maxHeartbeats 4000000 in
theorem IdxInt_any (C : FuncId) (eg : ∀ args w, (callFunc C args).run Tryz.prog w = .ok (.enter C args) w) (lb : Array Value) (W : World) (a : Option Addr) (cap : Nat) (l : List Int) (p : Nat → Bool) (hn : l.length ≤ 1000) (ha : IntsAt W a l)
    (hc : ∀ W', G W W' → ∀ i, i < l.length → Calls Tryz.prog C (#[.int .i64 (l.getD i 0)] ++ lb) W' fun e w' => e = .returned (.bool (p i)) ∧ G W' w') :
    Calls Tryz.prog 99 #[.slice a l.length cap, .func (.func C) #[] lb] W fun e w' => ∃ r : Int, e = .returned (.int .i64 r) ∧ decide (0 ≤ r) = anyU p l.length ∧ G W w' := by
  have HC := Lib.hid hc
  clear hc
  go_enter Tryz.func99, Tryz.ntmps99
  go_wp2
  go_loopw [8] (fun i wr => ∃ k : Nat, k ≤ l.length ∧ i = .int .i64 k ∧ Hid (∀ j, j < k → p j = false) ∧ G W wr) (fun i _ => l.length - (intOf i).toNat)
  case atStart => exact ⟨0, Nat.zero_le _, rfl, fun j hj => by omega, G.rf _⟩
  case round =>
    obtain ⟨k, hk, rfl, hno, hG⟩ := hrel
    by_cases hlt : k < l.length
    · have hki : (k : Int) < l.length := by omega
      rcases ha with rfl | ⟨g, off, rfl, hg, hcell⟩
      · simp at hlt
      have lg := Nat.lt_of_lt_of_le hg hG.size
      have q0 := ((bcellB hG).1 g _ hg).trans (hcell k hlt)
      have HC2 := Lib.hid (HC.out wr hG k hlt)
      obtain ⟨y, hy⟩ : ∃ y, y = l.getD k 0 := ⟨_, rfl⟩
      rw [← hy] at q0 HC2
      clear hy
      clear hcell HC
      cases hp : p k
      · rw [hp] at HC2
        have HP := Lib.hid hp
        clear hp
        go_wp2_with (go_at_fn C; refine (HC2.out).mono ?_; rintro e w1 ⟨rfl, hG1⟩)
        go_roundw
        case rel => exact ⟨k + 1, by omega, by go_num, fun j hj => by
          rcases Nat.lt_or_ge j k with h | h
          · exact hno.out j h
          · obtain rfl : j = k := by omega
            exact HP.out, hG.t hG1⟩
        case measure => simp [intOf] <;> omega
      · rw [hp] at HC2
        have HP := Lib.hid (anyU_yes hlt hp)
        clear hp
        go_wp2_with (go_at_fn C; refine (HC2.out).mono ?_; rintro e w1 ⟨rfl, hG1⟩)
        go_ret
        exact ⟨k, rfl, by rw [HP.out]; simp, hG.t hG1⟩
    · have hki : ¬ (k : Int) < l.length := by omega
      obtain rfl : k = l.length := by omega
      have HP := Lib.hid (anyU_no hno.out)
      go_wp2
      go_ret
      exact ⟨-1, rfl, by rw [HP.out]; rfl, hG⟩
theorem CtInt_any (C : FuncId) (eg : ∀ args w, (callFunc C args).run Tryz.prog w = .ok (.enter C args) w) (lb : Array Value) (W : World) (a : Option Addr) (cap : Nat) (l : List Int) (p : Nat → Bool) (hn : l.length ≤ 1000) (ha : IntsAt W a l)
    (hc : ∀ W', G W W' → ∀ i, i < l.length → Calls Tryz.prog C (#[.int .i64 (l.getD i 0)] ++ lb) W' fun e w' => e = .returned (.bool (p i)) ∧ G W' w') :
    Calls Tryz.prog 73 #[.slice a l.length cap, .func (.func C) #[] lb] W fun e w' => e = .returned (.bool (anyU p l.length)) ∧ G W w' := by
  have HI := Lib.hid (IdxInt_any C eg lb W a cap l p hn ha hc)
  clear ha hc
  go_enter Tryz.func73, Tryz.ntmps73
  go_wp2_with (go_at_call 99; refine (HI.out).mono ?_; rintro e w1 ⟨r, rfl, hr, hG1⟩; have HR := Lib.hid hr; clear hr)
  go_ret
  exact ⟨by rw [← HR.out]; first | rfl | simp, hG1⟩
theorem negInt (C : FuncId) (eg : ∀ args w, (callFunc C args).run Tryz.prog w = .ok (.enter C args) w) (lb : Array Value) (B : Nat) (x : Int) (b : Bool) (W : World) (hB : Blk W B 86 #[.func (.func C) #[] lb])
    (hc : ∀ W', G W W' → Calls Tryz.prog C (#[.int .i64 x] ++ lb) W' fun e w' => e = .returned (.bool b) ∧ G W' w') :
    Calls Tryz.prog 74 #[.int .i64 x, .pointer (some ⟨B, 0, none⟩)] W fun e w' => e = .returned (.bool (!b)) ∧ G W w' := by
  have HC := Lib.hid (hc W (G.rf _))
  have m0 := hB.cell 0
  have l0 := hB.lt
  clear hc
  go_enter Tryz.func74, Tryz.ntmps74
  go_wp2_with (go_at_fn C; refine (HC.out).mono ?_; rintro e w1 ⟨rfl, hG1⟩)
  go_ret
  exact ⟨rfl, hG1⟩
theorem eachInt_any (C : FuncId) (eg : ∀ args w, (callFunc C args).run Tryz.prog w = .ok (.enter C args) w) (lb : Array Value) (W : World) (a : Option Addr) (cap : Nat) (l : List Int) (p : Nat → Bool) (hn : l.length ≤ 1000) (ha : IntsAt W a l)
    (hc : ∀ W', G W W' → ∀ i, i < l.length → Calls Tryz.prog C (#[.int .i64 (l.getD i 0)] ++ lb) W' fun e w' => e = .returned (.bool (p i)) ∧ G W' w') :
    Calls Tryz.prog 38 #[.slice a l.length cap, .func (.func C) #[] lb] W fun e w' => e = .returned (.bool (allU p l.length)) ∧ G W w' := by
  have g0 : G W (W.alloc (.cells #[.func (.func C) #[] lb] 86)) := (G.rf _).a _
  have b0 : Blk (W.alloc (.cells #[.func (.func C) #[] lb] 86)) W.heap.size 86 #[.func (.func C) #[] lb] := Blk.new _ _ _
  have HCT := Lib.hid (CtInt_any 74 (enters_of Tryz.func74 (by kernel_rfl) rfl) #[.pointer (some ⟨W.heap.size, 0, none⟩)] (W.alloc (.cells #[.func (.func C) #[] lb] 86)) a cap l (fun i => !p i) hn (ha.below g0) (fun W' hW i hi => negInt C eg lb W.heap.size _ (p i) W' (b0.keep hW) (fun W2 h2 => hc W2 (g0.t (hW.t h2)) i hi)))
  clear ha hc
  go_enter Tryz.func38, Tryz.ntmps38
  go_wp2_with (go_at_call 73; refine (HCT.out).mono ?_; rintro e w1 ⟨rfl, hG1⟩)
  go_ret
  exact ⟨rfl, g0.t hG1⟩
set_option maxRecDepth 100000 in
set_option maxHeartbeats 4000000 in
theorem IdxAc_any (C : FuncId) (eg : ∀ args w, (callFunc C args).run Tryz.prog w = .ok (.enter C args) w) (lb : Array Value) (W : World) (a : Option Addr) (cap : Nat) (l : List Ac) (p : Nat → Bool) (hn : l.length ≤ 1000) (ha : RowE Ac.v 8 W a l)
    (hc : ∀ W', G W W' → ∀ i, i < l.length → Calls Tryz.prog C (#[.agg (l.getD i default).v] ++ lb) W' fun e w' => e = .returned (.bool (p i)) ∧ G W' w') :
    Calls Tryz.prog 76 #[.slice a l.length cap, .func (.func C) #[] lb] W fun e w' => ∃ r : Int, e = .returned (.int .i64 r) ∧ decide (0 ≤ r) = anyU p l.length ∧ G W w' := by
  have HC := Lib.hid hc
  clear hc
  go_enter Tryz.func76, Tryz.ntmps76
  go_wp2
  go_loopw [8] (fun i wr => ∃ k : Nat, k ≤ l.length ∧ i = .int .i64 k ∧ Hid (∀ j, j < k → p j = false) ∧ G W wr) (fun i _ => l.length - (intOf i).toNat)
  case atStart => exact ⟨0, Nat.zero_le _, rfl, fun j hj => by omega, G.rf _⟩
  case round =>
    obtain ⟨k, hk, rfl, hno, hG⟩ := hrel
    by_cases hlt : k < l.length
    · have hki : (k : Int) < l.length := by omega
      rcases ha with h | ⟨g, off, rfl, hg, hcell⟩
      · omega
      have lg := Nat.lt_of_lt_of_le hg hG.size
      have hcl := fun r hr => ((bcellB hG).1 g _ hg).trans (hcell k hlt r hr)
      have HC2 := Lib.hid (HC.out wr hG k hlt)
      obtain ⟨y, hy⟩ : ∃ y, y = l.getD k default := ⟨_, rfl⟩
      rw [← hy] at hcl HC2
      clear hy
      obtain ⟨yid, ytm, ykd, ybk, ybd, ym1, ym2, ysl⟩ := y
      unfold Ac.v at HC2 hcl
      have q0 : wr.cell? ⟨g, off + k * 8, none⟩ = some (.int .i64 yid) := hcl 0 (by omega)
      have q1 : wr.cell? ⟨g, off + k * 8 + 1, none⟩ = some (.int .i64 ytm) := hcl 1 (by omega)
      have q2 : wr.cell? ⟨g, off + k * 8 + 2, none⟩ = some (.int .i64 ykd) := hcl 2 (by omega)
      have q3 : wr.cell? ⟨g, off + k * 8 + 3, none⟩ = some (.int .i64 ybk) := hcl 3 (by omega)
      have q4 : wr.cell? ⟨g, off + k * 8 + 4, none⟩ = some (.int .i64 ybd) := hcl 4 (by omega)
      have q5 : wr.cell? ⟨g, off + k * 8 + 5, none⟩ = some (.int .i64 ym1) := hcl 5 (by omega)
      have q6 : wr.cell? ⟨g, off + k * 8 + 6, none⟩ = some (.int .i64 ym2) := hcl 6 (by omega)
      have q7 : wr.cell? ⟨g, off + k * 8 + 7, none⟩ = some (.int .i64 ysl) := hcl 7 (by omega)
      clear hcl
      clear hcell HC
      cases hp : p k
      · rw [hp] at HC2
        have HP := Lib.hid hp
        clear hp
        go_wp2_with (go_at_fn C; refine (HC2.out).mono ?_; rintro e w1 ⟨rfl, hG1⟩)
        go_roundw
        case rel => exact ⟨k + 1, by omega, by go_num, fun j hj => by
          rcases Nat.lt_or_ge j k with h | h
          · exact hno.out j h
          · obtain rfl : j = k := by omega
            exact HP.out, hG.t hG1⟩
        case measure => simp [intOf] <;> omega
      · rw [hp] at HC2
        have HP := Lib.hid (anyU_yes hlt hp)
        clear hp
        go_wp2_with (go_at_fn C; refine (HC2.out).mono ?_; rintro e w1 ⟨rfl, hG1⟩)
        go_ret
        exact ⟨k, rfl, by rw [HP.out]; simp, hG.t hG1⟩
    · have hki : ¬ (k : Int) < l.length := by omega
      obtain rfl : k = l.length := by omega
      have HP := Lib.hid (anyU_no hno.out)
      go_wp2
      go_ret
      exact ⟨-1, rfl, by rw [HP.out]; rfl, hG⟩
theorem CtAc_any (C : FuncId) (eg : ∀ args w, (callFunc C args).run Tryz.prog w = .ok (.enter C args) w) (lb : Array Value) (W : World) (a : Option Addr) (cap : Nat) (l : List Ac) (p : Nat → Bool) (hn : l.length ≤ 1000) (ha : RowE Ac.v 8 W a l)
    (hc : ∀ W', G W W' → ∀ i, i < l.length → Calls Tryz.prog C (#[.agg (l.getD i default).v] ++ lb) W' fun e w' => e = .returned (.bool (p i)) ∧ G W' w') :
    Calls Tryz.prog 42 #[.slice a l.length cap, .func (.func C) #[] lb] W fun e w' => e = .returned (.bool (anyU p l.length)) ∧ G W w' := by
  have HI := Lib.hid (IdxAc_any C eg lb W a cap l p hn ha hc)
  clear ha hc
  go_enter Tryz.func42, Tryz.ntmps42
  go_wp2_with (go_at_call 76; refine (HI.out).mono ?_; rintro e w1 ⟨r, rfl, hr, hG1⟩; have HR := Lib.hid hr; clear hr)
  go_ret
  exact ⟨by rw [← HR.out]; first | rfl | simp, hG1⟩
theorem negAc (C : FuncId) (eg : ∀ args w, (callFunc C args).run Tryz.prog w = .ok (.enter C args) w) (lb : Array Value) (B : Nat) (x : Ac) (b : Bool) (W : World) (hB : Blk W B 89 #[.func (.func C) #[] lb])
    (hc : ∀ W', G W W' → Calls Tryz.prog C (#[.agg x.v] ++ lb) W' fun e w' => e = .returned (.bool b) ∧ G W' w') :
    Calls Tryz.prog 101 #[.agg x.v, .pointer (some ⟨B, 0, none⟩)] W fun e w' => e = .returned (.bool (!b)) ∧ G W w' := by
  obtain ⟨yid, ytm, ykd, ybk, ybd, ym1, ym2, ysl⟩ := x
  unfold Ac.v at *
  have g0 : G W (W.alloc (.cells #[.int .i64 yid, .int .i64 ytm, .int .i64 ykd, .int .i64 ybk, .int .i64 ybd, .int .i64 ym1, .int .i64 ym2, .int .i64 ysl] 54)) := (G.rf _).a _
  have HC := Lib.hid (hc _ g0)
  have b0 := hB.keep g0
  have m0 := b0.cell 0
  have l0 := b0.lt
  clear hc
  go_enter Tryz.func101, Tryz.ntmps101
  go_wp2_with (go_at_fn C; refine (HC.out).mono ?_; rintro e w1 ⟨rfl, hG1⟩)
  go_ret
  exact ⟨rfl, g0.t hG1⟩
theorem eachAc_any (C : FuncId) (eg : ∀ args w, (callFunc C args).run Tryz.prog w = .ok (.enter C args) w) (lb : Array Value) (W : World) (a : Option Addr) (cap : Nat) (l : List Ac) (p : Nat → Bool) (hn : l.length ≤ 1000) (ha : RowE Ac.v 8 W a l)
    (hc : ∀ W', G W W' → ∀ i, i < l.length → Calls Tryz.prog C (#[.agg (l.getD i default).v] ++ lb) W' fun e w' => e = .returned (.bool (p i)) ∧ G W' w') :
    Calls Tryz.prog 83 #[.slice a l.length cap, .func (.func C) #[] lb] W fun e w' => e = .returned (.bool (allU p l.length)) ∧ G W w' := by
  have g0 : G W (W.alloc (.cells #[.func (.func C) #[] lb] 89)) := (G.rf _).a _
  have b0 : Blk (W.alloc (.cells #[.func (.func C) #[] lb] 89)) W.heap.size 89 #[.func (.func C) #[] lb] := Blk.new _ _ _
  have HCT := Lib.hid (CtAc_any 101 (enters_of Tryz.func101 (by kernel_rfl) rfl) #[.pointer (some ⟨W.heap.size, 0, none⟩)] (W.alloc (.cells #[.func (.func C) #[] lb] 89)) a cap l (fun i => !p i) hn (ha.below g0) (fun W' hW i hi => negAc C eg lb W.heap.size _ (p i) W' (b0.keep hW) (fun W2 h2 => hc W2 (g0.t (hW.t h2)) i hi)))
  clear ha hc
  go_enter Tryz.func83, Tryz.ntmps83
  go_wp2_with (go_at_call 42; refine (HCT.out).mono ?_; rintro e w1 ⟨rfl, hG1⟩)
  go_ret
  exact ⟨rfl, g0.t hG1⟩
set_option maxRecDepth 100000 in
set_option maxHeartbeats 4000000 in
theorem IdxDu_any (C : FuncId) (eg : ∀ args w, (callFunc C args).run Tryz.prog w = .ok (.enter C args) w) (lb : Array Value) (W : World) (a : Option Addr) (cap : Nat) (l : List Du) (p : Nat → Bool) (hn : l.length ≤ 1000) (ha : RowE Du.v 4 W a l)
    (hc : ∀ W', G W W' → ∀ i, i < l.length → Calls Tryz.prog C (#[.agg (l.getD i default).v] ++ lb) W' fun e w' => e = .returned (.bool (p i)) ∧ G W' w') :
    Calls Tryz.prog 100 #[.slice a l.length cap, .func (.func C) #[] lb] W fun e w' => ∃ r : Int, e = .returned (.int .i64 r) ∧ decide (0 ≤ r) = anyU p l.length ∧ G W w' := by
  have HC := Lib.hid hc
  clear hc
  go_enter Tryz.func100, Tryz.ntmps100
  go_wp2
  go_loopw [8] (fun i wr => ∃ k : Nat, k ≤ l.length ∧ i = .int .i64 k ∧ Hid (∀ j, j < k → p j = false) ∧ G W wr) (fun i _ => l.length - (intOf i).toNat)
  case atStart => exact ⟨0, Nat.zero_le _, rfl, fun j hj => by omega, G.rf _⟩
  case round =>
    obtain ⟨k, hk, rfl, hno, hG⟩ := hrel
    by_cases hlt : k < l.length
    · have hki : (k : Int) < l.length := by omega
      rcases ha with h | ⟨g, off, rfl, hg, hcell⟩
      · omega
      have lg := Nat.lt_of_lt_of_le hg hG.size
      have hcl := fun r hr => ((bcellB hG).1 g _ hg).trans (hcell k hlt r hr)
      have HC2 := Lib.hid (HC.out wr hG k hlt)
      obtain ⟨y, hy⟩ : ∃ y, y = l.getD k default := ⟨_, rfl⟩
      rw [← hy] at hcl HC2
      clear hy
      obtain ⟨ymb, ybk, yfr, yto⟩ := y
      unfold Du.v at HC2 hcl
      have q0 : wr.cell? ⟨g, off + k * 4, none⟩ = some (.int .i64 ymb) := hcl 0 (by omega)
      have q1 : wr.cell? ⟨g, off + k * 4 + 1, none⟩ = some (.int .i64 ybk) := hcl 1 (by omega)
      have q2 : wr.cell? ⟨g, off + k * 4 + 2, none⟩ = some (.int .i64 yfr) := hcl 2 (by omega)
      have q3 : wr.cell? ⟨g, off + k * 4 + 3, none⟩ = some (.int .i64 yto) := hcl 3 (by omega)
      clear hcl
      clear hcell HC
      cases hp : p k
      · rw [hp] at HC2
        have HP := Lib.hid hp
        clear hp
        go_wp2_with (go_at_fn C; refine (HC2.out).mono ?_; rintro e w1 ⟨rfl, hG1⟩)
        go_roundw
        case rel => exact ⟨k + 1, by omega, by go_num, fun j hj => by
          rcases Nat.lt_or_ge j k with h | h
          · exact hno.out j h
          · obtain rfl : j = k := by omega
            exact HP.out, hG.t hG1⟩
        case measure => simp [intOf] <;> omega
      · rw [hp] at HC2
        have HP := Lib.hid (anyU_yes hlt hp)
        clear hp
        go_wp2_with (go_at_fn C; refine (HC2.out).mono ?_; rintro e w1 ⟨rfl, hG1⟩)
        go_ret
        exact ⟨k, rfl, by rw [HP.out]; simp, hG.t hG1⟩
    · have hki : ¬ (k : Int) < l.length := by omega
      obtain rfl : k = l.length := by omega
      have HP := Lib.hid (anyU_no hno.out)
      go_wp2
      go_ret
      exact ⟨-1, rfl, by rw [HP.out]; rfl, hG⟩
theorem CtDu_any (C : FuncId) (eg : ∀ args w, (callFunc C args).run Tryz.prog w = .ok (.enter C args) w) (lb : Array Value) (W : World) (a : Option Addr) (cap : Nat) (l : List Du) (p : Nat → Bool) (hn : l.length ≤ 1000) (ha : RowE Du.v 4 W a l)
    (hc : ∀ W', G W W' → ∀ i, i < l.length → Calls Tryz.prog C (#[.agg (l.getD i default).v] ++ lb) W' fun e w' => e = .returned (.bool (p i)) ∧ G W' w') :
    Calls Tryz.prog 78 #[.slice a l.length cap, .func (.func C) #[] lb] W fun e w' => e = .returned (.bool (anyU p l.length)) ∧ G W w' := by
  have HI := Lib.hid (IdxDu_any C eg lb W a cap l p hn ha hc)
  clear ha hc
  go_enter Tryz.func78, Tryz.ntmps78
  go_wp2_with (go_at_call 100; refine (HI.out).mono ?_; rintro e w1 ⟨r, rfl, hr, hG1⟩; have HR := Lib.hid hr; clear hr)
  go_ret
  exact ⟨by rw [← HR.out]; first | rfl | simp, hG1⟩
theorem negDu (C : FuncId) (eg : ∀ args w, (callFunc C args).run Tryz.prog w = .ok (.enter C args) w) (lb : Array Value) (B : Nat) (x : Du) (b : Bool) (W : World) (hB : Blk W B 113 #[.func (.func C) #[] lb])
    (hc : ∀ W', G W W' → Calls Tryz.prog C (#[.agg x.v] ++ lb) W' fun e w' => e = .returned (.bool b) ∧ G W' w') :
    Calls Tryz.prog 103 #[.agg x.v, .pointer (some ⟨B, 0, none⟩)] W fun e w' => e = .returned (.bool (!b)) ∧ G W w' := by
  obtain ⟨ymb, ybk, yfr, yto⟩ := x
  unfold Du.v at *
  have g0 : G W (W.alloc (.cells #[.int .i64 ymb, .int .i64 ybk, .int .i64 yfr, .int .i64 yto] 56)) := (G.rf _).a _
  have HC := Lib.hid (hc _ g0)
  have b0 := hB.keep g0
  have m0 := b0.cell 0
  have l0 := b0.lt
  clear hc
  go_enter Tryz.func103, Tryz.ntmps103
  go_wp2_with (go_at_fn C; refine (HC.out).mono ?_; rintro e w1 ⟨rfl, hG1⟩)
  go_ret
  exact ⟨rfl, g0.t hG1⟩
theorem eachDu_any (C : FuncId) (eg : ∀ args w, (callFunc C args).run Tryz.prog w = .ok (.enter C args) w) (lb : Array Value) (W : World) (a : Option Addr) (cap : Nat) (l : List Du) (p : Nat → Bool) (hn : l.length ≤ 1000) (ha : RowE Du.v 4 W a l)
    (hc : ∀ W', G W W' → ∀ i, i < l.length → Calls Tryz.prog C (#[.agg (l.getD i default).v] ++ lb) W' fun e w' => e = .returned (.bool (p i)) ∧ G W' w') :
    Calls Tryz.prog 86 #[.slice a l.length cap, .func (.func C) #[] lb] W fun e w' => e = .returned (.bool (allU p l.length)) ∧ G W w' := by
  have g0 : G W (W.alloc (.cells #[.func (.func C) #[] lb] 113)) := (G.rf _).a _
  have b0 : Blk (W.alloc (.cells #[.func (.func C) #[] lb] 113)) W.heap.size 113 #[.func (.func C) #[] lb] := Blk.new _ _ _
  have HCT := Lib.hid (CtDu_any 103 (enters_of Tryz.func103 (by kernel_rfl) rfl) #[.pointer (some ⟨W.heap.size, 0, none⟩)] (W.alloc (.cells #[.func (.func C) #[] lb] 113)) a cap l (fun i => !p i) hn (ha.below g0) (fun W' hW i hi => negDu C eg lb W.heap.size _ (p i) W' (b0.keep hW) (fun W2 h2 => hc W2 (g0.t (hW.t h2)) i hi)))
  clear ha hc
  go_enter Tryz.func86, Tryz.ntmps86
  go_wp2_with (go_at_call 78; refine (HCT.out).mono ?_; rintro e w1 ⟨rfl, hG1⟩)
  go_ret
  exact ⟨rfl, g0.t hG1⟩
end Go.Proofs.YtabnpimidhlbiaaGreat

set_option linter.unusedSimpArgs false
set_option linter.unusedVariables false
namespace Go.Proofs.YtabnpimidhlbiaaGreat
open Go.RowKit Go.Shelf
attribute [local go_sem] Oper.semAt_some
theorem basket_any (c : Cv) (n : Int) (w : World) (h : IntKind.i64.wrap (c.bks - 1) = c.bks - 1) : Calls Tryz.prog 56 #[.agg c.v, .int .i64 n] w fun e w' => e = .returned (.bool (upB n (c.bks - 1))) ∧ G w w' := by
  have HU := Lib.hid (fun W => upTo_any n (c.bks - 1) W)
  obtain ⟨ybks, ybds, yaa, yac, yacts, yda, ydc, yduties, yen⟩ := c
  unfold Cv.v at *
  dsimp only at *
  have g0 : G w (w.alloc (.cells #[.int .i64 ybks, .int .i64 ybds, .slice yaa yacts.length yac, .slice yda yduties.length ydc, .int .i64 yen] 25)) := (G.rf _).a _
  have b0 : Blk (w.alloc (.cells #[.int .i64 ybks, .int .i64 ybds, .slice yaa yacts.length yac, .slice yda yduties.length ydc, .int .i64 yen] 25)) w.heap.size 25 #[.int .i64 ybks, .int .i64 ybds, .slice yaa yacts.length yac, .slice yda yduties.length ydc, .int .i64 yen] := Blk.new _ _ _
  go_enter Tryz.func56, Tryz.ntmps56
  go_wp2_with (go_at_call 75; refine (HU.out _).mono ?_; rintro e w1 ⟨rfl, hG1⟩; replace g0 := g0.t hG1; clear hG1)
  go_ret
  exact ⟨rfl, g0⟩
theorem bird_any (c : Cv) (n : Int) (w : World) (h : IntKind.i64.wrap (c.bds - 1) = c.bds - 1) : Calls Tryz.prog 61 #[.agg c.v, .int .i64 n] w fun e w' => e = .returned (.bool (upB n (c.bds - 1))) ∧ G w w' := by
  have HU := Lib.hid (fun W => upTo_any n (c.bds - 1) W)
  obtain ⟨ybks, ybds, yaa, yac, yacts, yda, ydc, yduties, yen⟩ := c
  unfold Cv.v at *
  dsimp only at *
  have g0 : G w (w.alloc (.cells #[.int .i64 ybks, .int .i64 ybds, .slice yaa yacts.length yac, .slice yda yduties.length ydc, .int .i64 yen] 25)) := (G.rf _).a _
  have b0 : Blk (w.alloc (.cells #[.int .i64 ybks, .int .i64 ybds, .slice yaa yacts.length yac, .slice yda yduties.length ydc, .int .i64 yen] 25)) w.heap.size 25 #[.int .i64 ybks, .int .i64 ybds, .slice yaa yacts.length yac, .slice yda yduties.length ydc, .int .i64 yen] := Blk.new _ _ _
  go_enter Tryz.func61, Tryz.ntmps61
  go_wp2_with (go_at_call 75; refine (HU.out _).mono ?_; rintro e w1 ⟨rfl, hG1⟩; replace g0 := g0.t hG1; clear hG1)
  go_ret
  exact ⟨rfl, g0⟩
def teamB (a : Ac) : Bool := decide (a.m1 = 0) && decide (a.m2 = 0)
def fldB (n : Int) (a : Ac) : Bool :=
  if a.kd = 1 then upB a.bd (n - 1) && (upB a.m1 99 && (upB a.m2 99 && (!decide (a.m1 = a.m2) && decide (a.sl = 0))))
  else if a.kd = 2 then upB a.bd (n - 1) && (teamB a && decide (a.sl = 0))
  else if a.kd = 3 then decide (a.bd = 0) && (teamB a && (decide (0 < a.sl) && upB a.sl 999))
  else if a.kd = 4 ∨ a.kd = 5 then decide (a.bd = 0) && (teamB a && upB a.sl 999)
  else false
theorem actB_eq (B n E : Int) (a : Ac) : actB B n E a = (upB a.id 99 && (upB a.tm E && (upB a.bk (B - 1) && fldB n a))) := by
  unfold actB fldB upB teamB
  simp only [Bool.and_assoc]
/-- the two boxes of a convoy and an act -/
theorem box2 (w : World) (c0 c1 : Array Value) (t0 t1 : TypeId) : G w ((w.alloc (.cells c0 t0)).alloc (.cells c1 t1)) ∧ Blk ((w.alloc (.cells c0 t0)).alloc (.cells c1 t1)) w.heap.size t0 c0 ∧ Blk ((w.alloc (.cells c0 t0)).alloc (.cells c1 t1)) (w.heap.size + 1) t1 c1 :=
  ⟨((G.rf _).a _).a _, (Blk.new w t0 c0).alloc _, Blk.new1 w _ t1 c1⟩
set_option maxRecDepth 100000 in
set_option maxHeartbeats 8000000 in
theorem fields_any (c : Cv) (a : Ac) (w : World) (h : IntKind.i64.wrap (c.bds - 1) = c.bds - 1) : Calls Tryz.prog 102 #[.agg c.v, .agg a.v] w fun e w' => e = .returned (.bool (fldB c.bds a)) ∧ G w w' := by
  have HB := Lib.hid (fun (W : World) => bird_any c a.bd W h)
  have H1 := Lib.hid (fun (W : World) => member_any a.m1 W)
  have H2 := Lib.hid (fun (W : World) => member_any a.m2 W)
  have HS := Lib.hid (fun (W : World) => upTo_any a.sl 999 W)
  unfold fldB teamB
  obtain ⟨ybks, ybds, yaa, yac, yacts, yda, ydc, yduties, yen⟩ := c
  obtain ⟨yid, ytm, ykd, ybk, ybd, ym1, ym2, ysl⟩ := a
  unfold Cv.v Ac.v at *
  dsimp only at *
  clear h
  obtain ⟨g0, b0, d0⟩ := box2 w #[.int .i64 ybks, .int .i64 ybds, .slice yaa yacts.length yac, .slice yda yduties.length ydc, .int .i64 yen] #[.int .i64 yid, .int .i64 ytm, .int .i64 ykd, .int .i64 ybk, .int .i64 ybd, .int .i64 ym1, .int .i64 ym2, .int .i64 ysl] 25 54
  generalize upB ybd (ybds - 1) = A at *
  generalize upB ysl 999 = S at *
  have hno : (ym1 = 0 ∧ (ym1 == 0) = true) ∨ (ym1 ≠ 0 ∧ (ym1 == 0) = false) := by
    by_cases e : ym1 = 0
    · exact .inl ⟨e, by simpa using e⟩
    · exact .inr ⟨e, by simpa using e⟩
  have hn2 : (ym2 = 0 ∧ (ym2 == 0) = true) ∨ (ym2 ≠ 0 ∧ (ym2 == 0) = false) := by
    by_cases e : ym2 = 0
    · exact .inl ⟨e, by simpa using e⟩
    · exact .inr ⟨e, by simpa using e⟩
  by_cases h1 : ykd = 1
  · subst h1
    rw [if_pos rfl]
    generalize upB ym1 99 = B at *
    generalize upB ym2 99 = C at *
    have hd : (ym1 = ym2 ∧ decide (ym1 = ym2) = true) ∨ (¬ ym1 = ym2 ∧ decide (ym1 = ym2) = false) := by
      by_cases e : ym1 = ym2
      · exact .inl ⟨e, by simpa using e⟩
      · exact .inr ⟨e, by simpa using e⟩
    have key : A = false ∨ (A = true ∧ B = false) ∨ (A = true ∧ B = true ∧ C = false) ∨ (A = true ∧ B = true ∧ C = true) := and4 A B C
    clear HS
    rcases key with rfl | ⟨rfl, rfl⟩ | ⟨rfl, rfl, rfl⟩ | ⟨rfl, rfl, rfl⟩
    all_goals
      rcases hno with ⟨rfl, -⟩ | ⟨hz, hno⟩
      all_goals
        rcases hd with ⟨rfl, hd2⟩ | ⟨hd, hd2⟩
        all_goals
          try clear hz
          try rw [hd2]
          clear hd2 hn2
          go_enter Tryz.func102, Tryz.ntmps102
          go_wp2_with (first | (go_at_call 61; refine (HB.out _).mono ?_; rintro e w1 ⟨rfl, hG1⟩; clear HB; replace b0 := b0.keep hG1; replace d0 := d0.keep hG1; replace g0 := g0.t hG1; clear hG1; have m0 := b0.cell 0; have m1 := b0.cell 1; have m2 := b0.cell 2; have m3 := b0.cell 3; have m4 := b0.cell 4; have n0 := d0.cell 0; have n1 := d0.cell 1; have n2 := d0.cell 2; have n3 := d0.cell 3; have n4 := d0.cell 4; have n5 := d0.cell 5; have n6 := d0.cell 6; have n7 := d0.cell 7; have l0 := b0.lt; have l1 := d0.lt) | (go_at_call 39; refine (H1.out _).mono ?_; rintro e w1 ⟨rfl, hG1⟩; clear H1; replace b0 := b0.keep hG1; replace d0 := d0.keep hG1; replace g0 := g0.t hG1; clear hG1; have m0 := b0.cell 0; have m1 := b0.cell 1; have m2 := b0.cell 2; have m3 := b0.cell 3; have m4 := b0.cell 4; have n0 := d0.cell 0; have n1 := d0.cell 1; have n2 := d0.cell 2; have n3 := d0.cell 3; have n4 := d0.cell 4; have n5 := d0.cell 5; have n6 := d0.cell 6; have n7 := d0.cell 7; have l0 := b0.lt; have l1 := d0.lt) | (go_at_call 39; refine (H2.out _).mono ?_; rintro e w1 ⟨rfl, hG1⟩; clear H2; replace b0 := b0.keep hG1; replace d0 := d0.keep hG1; replace g0 := g0.t hG1; clear hG1; have m0 := b0.cell 0; have m1 := b0.cell 1; have m2 := b0.cell 2; have m3 := b0.cell 3; have m4 := b0.cell 4; have n0 := d0.cell 0; have n1 := d0.cell 1; have n2 := d0.cell 2; have n3 := d0.cell 3; have n4 := d0.cell 4; have n5 := d0.cell 5; have n6 := d0.cell 6; have n7 := d0.cell 7; have l0 := b0.lt; have l1 := d0.lt))
          go_ret
          exact ⟨by first | rfl | (simp; done) | (have hq := bne_iff_ne.2 hd; simp only [hq, Bool.true_and, Bool.not_false]; first | done | rfl | (simp; done)) | (congr 1; simp), g0⟩
  have k1 : (ykd == 1) = false := by simpa using h1
  rw [if_neg h1]
  by_cases h2 : ykd = 2
  · subst h2
    rw [if_pos rfl]
    clear HS H1 H2
    cases A
    all_goals
      rcases hno with ⟨rfl, -⟩ | ⟨hz, hno⟩
      all_goals
        rcases hn2 with ⟨rfl, -⟩ | ⟨hy, hn2⟩
        all_goals
          have hz2 := Lib.hid (True.intro)
          try (have hz3 : decide (ym1 = 0) = false := by simpa using hz)
          try (have hy3 : decide (ym2 = 0) = false := by simpa using hy)
          try clear hz
          try clear hy
          go_enter Tryz.func102, Tryz.ntmps102
          go_wp2_with (first | (go_at_call 61; refine (HB.out _).mono ?_; rintro e w1 ⟨rfl, hG1⟩; clear HB; replace b0 := b0.keep hG1; replace d0 := d0.keep hG1; replace g0 := g0.t hG1; clear hG1; have m0 := b0.cell 0; have m1 := b0.cell 1; have m2 := b0.cell 2; have m3 := b0.cell 3; have m4 := b0.cell 4; have n0 := d0.cell 0; have n1 := d0.cell 1; have n2 := d0.cell 2; have n3 := d0.cell 3; have n4 := d0.cell 4; have n5 := d0.cell 5; have n6 := d0.cell 6; have n7 := d0.cell 7; have l0 := b0.lt; have l1 := d0.lt) | (go_at_call 39; refine (H1.out _).mono ?_; rintro e w1 ⟨rfl, hG1⟩; clear H1; replace b0 := b0.keep hG1; replace d0 := d0.keep hG1; replace g0 := g0.t hG1; clear hG1; have m0 := b0.cell 0; have m1 := b0.cell 1; have m2 := b0.cell 2; have m3 := b0.cell 3; have m4 := b0.cell 4; have n0 := d0.cell 0; have n1 := d0.cell 1; have n2 := d0.cell 2; have n3 := d0.cell 3; have n4 := d0.cell 4; have n5 := d0.cell 5; have n6 := d0.cell 6; have n7 := d0.cell 7; have l0 := b0.lt; have l1 := d0.lt) | (go_at_call 39; refine (H2.out _).mono ?_; rintro e w1 ⟨rfl, hG1⟩; clear H2; replace b0 := b0.keep hG1; replace d0 := d0.keep hG1; replace g0 := g0.t hG1; clear hG1; have m0 := b0.cell 0; have m1 := b0.cell 1; have m2 := b0.cell 2; have m3 := b0.cell 3; have m4 := b0.cell 4; have n0 := d0.cell 0; have n1 := d0.cell 1; have n2 := d0.cell 2; have n3 := d0.cell 3; have n4 := d0.cell 4; have n5 := d0.cell 5; have n6 := d0.cell 6; have n7 := d0.cell 7; have l0 := b0.lt; have l1 := d0.lt))
          go_ret
          exact ⟨by first | rfl | (simp; done) | (simp_all; done) | (congr 1; simp_all; done), g0⟩
  have k2 : (ykd == 2) = false := by simpa using h2
  rw [if_neg h2]
  clear HB H1 H2
  have hbd : (ybd = 0 ∧ (ybd == 0) = true) ∨ (ybd ≠ 0 ∧ (ybd == 0) = false) := by
    by_cases e : ybd = 0
    · exact .inl ⟨e, by simpa using e⟩
    · exact .inr ⟨e, by simpa using e⟩
  by_cases h3 : ykd = 3
  · subst h3
    rw [if_pos rfl]
    by_cases hsl : 0 < ysl
    all_goals
      rcases hbd with ⟨rfl, -⟩ | ⟨hx, hbd⟩
      all_goals
        rcases hno with ⟨rfl, -⟩ | ⟨hz, hno⟩
        all_goals
          rcases hn2 with ⟨rfl, -⟩ | ⟨hy, hn2⟩
          all_goals
            try (have hs3 : decide (0 < ysl) = false := by simpa using hsl)
            try rw [hs3]
            try (have hx3 : decide (ybd = 0) = false := by simpa using hx)
            try (have hz3 : decide (ym1 = 0) = false := by simpa using hz)
            try (have hy3 : decide (ym2 = 0) = false := by simpa using hy)
            try clear hx
            try clear hz
            try clear hy
            go_enter Tryz.func102, Tryz.ntmps102
            go_wp2_with (first | (go_at_call 75; refine (HS.out _).mono ?_; rintro e w1 ⟨rfl, hG1⟩; clear HS; replace b0 := b0.keep hG1; replace d0 := d0.keep hG1; replace g0 := g0.t hG1; clear hG1; have m0 := b0.cell 0; have m1 := b0.cell 1; have m2 := b0.cell 2; have m3 := b0.cell 3; have m4 := b0.cell 4; have n0 := d0.cell 0; have n1 := d0.cell 1; have n2 := d0.cell 2; have n3 := d0.cell 3; have n4 := d0.cell 4; have n5 := d0.cell 5; have n6 := d0.cell 6; have n7 := d0.cell 7; have l0 := b0.lt; have l1 := d0.lt))
            go_ret
            exact ⟨by first | rfl | (simp; done) | (simp_all; done) | (congr 1; simp_all; done), g0⟩
  have k3 : (ykd == 3) = false := by simpa using h3
  rw [if_neg h3]
  by_cases h4 : ykd = 4 ∨ ykd = 5
  · rw [if_pos h4]
    rcases h4 with rfl | rfl
    all_goals
      rcases hbd with ⟨rfl, -⟩ | ⟨hx, hbd⟩
      all_goals
        rcases hno with ⟨rfl, -⟩ | ⟨hz, hno⟩
        all_goals
          rcases hn2 with ⟨rfl, -⟩ | ⟨hy, hn2⟩
          all_goals
            try (have hx3 : decide (ybd = 0) = false := by simpa using hx)
            try (have hz3 : decide (ym1 = 0) = false := by simpa using hz)
            try (have hy3 : decide (ym2 = 0) = false := by simpa using hy)
            try clear hx
            try clear hz
            try clear hy
            go_enter Tryz.func102, Tryz.ntmps102
            go_wp2_with (first | (go_at_call 75; refine (HS.out _).mono ?_; rintro e w1 ⟨rfl, hG1⟩; clear HS; replace b0 := b0.keep hG1; replace d0 := d0.keep hG1; replace g0 := g0.t hG1; clear hG1; have m0 := b0.cell 0; have m1 := b0.cell 1; have m2 := b0.cell 2; have m3 := b0.cell 3; have m4 := b0.cell 4; have n0 := d0.cell 0; have n1 := d0.cell 1; have n2 := d0.cell 2; have n3 := d0.cell 3; have n4 := d0.cell 4; have n5 := d0.cell 5; have n6 := d0.cell 6; have n7 := d0.cell 7; have l0 := b0.lt; have l1 := d0.lt))
            go_ret
            exact ⟨by first | rfl | (simp; done) | (simp_all; done) | (congr 1; simp_all; done), g0⟩
  · rw [if_neg h4]
    have k4 : (ykd == 4) = false := by simp; omega
    have k5 : (ykd == 5) = false := by simp; omega
    clear hbd hn2
    rcases hno with ⟨rfl, -⟩ | ⟨hz, hno⟩
    all_goals
      try clear hz
      go_enter Tryz.func102, Tryz.ntmps102
      go_wp2_with fail
      go_ret
      exact ⟨by first | rfl | (simp; done), g0⟩
set_option maxRecDepth 100000 in
set_option maxHeartbeats 8000000 in
theorem act_any (c : Cv) (a : Ac) (w : World) (h1 : IntKind.i64.wrap (c.bks - 1) = c.bks - 1) (h2 : IntKind.i64.wrap (c.bds - 1) = c.bds - 1) : Calls Tryz.prog 85 #[.agg c.v, .agg a.v] w fun e w' => e = .returned (.bool (actB c.bks c.bds c.en a)) ∧ G w w' := by
  rw [actB_eq]
  have HM := Lib.hid (fun (W : World) => member_any a.id W)
  have HT := Lib.hid (fun (W : World) => upTo_any a.tm c.en W)
  have HK := Lib.hid (fun (W : World) => basket_any c a.bk W h1)
  have HF := Lib.hid (fun (W : World) => fields_any c a W h2)
  clear h1 h2
  generalize fldB c.bds a = D at *
  obtain ⟨ybks, ybds, yaa, yac, yacts, yda, ydc, yduties, yen⟩ := c
  obtain ⟨yid, ytm, ykd, ybk, ybd, ym1, ym2, ysl⟩ := a
  unfold Cv.v Ac.v at *
  dsimp only at *
  obtain ⟨g0, b0, d0⟩ := box2 w #[.int .i64 ybks, .int .i64 ybds, .slice yaa yacts.length yac, .slice yda yduties.length ydc, .int .i64 yen] #[.int .i64 yid, .int .i64 ytm, .int .i64 ykd, .int .i64 ybk, .int .i64 ybd, .int .i64 ym1, .int .i64 ym2, .int .i64 ysl] 25 54
  generalize upB yid 99 = A at *
  generalize upB ytm yen = B at *
  generalize upB ybk (ybks - 1) = C at *
  have key := and4 A B C
  rcases key with rfl | ⟨rfl, rfl⟩ | ⟨rfl, rfl, rfl⟩ | ⟨rfl, rfl, rfl⟩
  all_goals
    go_enter Tryz.func85, Tryz.ntmps85
    go_wp2_with (first | (go_at_call 39; refine (HM.out _).mono ?_; rintro e w1 ⟨rfl, hG1⟩; clear HM; replace b0 := b0.keep hG1; replace d0 := d0.keep hG1; replace g0 := g0.t hG1; clear hG1; have m0 := b0.cell 0; have m1 := b0.cell 1; have m2 := b0.cell 2; have m3 := b0.cell 3; have m4 := b0.cell 4; have n0 := d0.cell 0; have n1 := d0.cell 1; have n2 := d0.cell 2; have n3 := d0.cell 3; have n4 := d0.cell 4; have n5 := d0.cell 5; have n6 := d0.cell 6; have n7 := d0.cell 7; have l0 := b0.lt; have l1 := d0.lt) | (go_at_call 75; refine (HT.out _).mono ?_; rintro e w1 ⟨rfl, hG1⟩; clear HT; replace b0 := b0.keep hG1; replace d0 := d0.keep hG1; replace g0 := g0.t hG1; clear hG1; have m0 := b0.cell 0; have m1 := b0.cell 1; have m2 := b0.cell 2; have m3 := b0.cell 3; have m4 := b0.cell 4; have n0 := d0.cell 0; have n1 := d0.cell 1; have n2 := d0.cell 2; have n3 := d0.cell 3; have n4 := d0.cell 4; have n5 := d0.cell 5; have n6 := d0.cell 6; have n7 := d0.cell 7; have l0 := b0.lt; have l1 := d0.lt) | (go_at_call 56; refine (HK.out _).mono ?_; rintro e w1 ⟨rfl, hG1⟩; clear HK; replace b0 := b0.keep hG1; replace d0 := d0.keep hG1; replace g0 := g0.t hG1; clear hG1; have m0 := b0.cell 0; have m1 := b0.cell 1; have m2 := b0.cell 2; have m3 := b0.cell 3; have m4 := b0.cell 4; have n0 := d0.cell 0; have n1 := d0.cell 1; have n2 := d0.cell 2; have n3 := d0.cell 3; have n4 := d0.cell 4; have n5 := d0.cell 5; have n6 := d0.cell 6; have n7 := d0.cell 7; have l0 := b0.lt; have l1 := d0.lt) | (go_at_call 102; refine (HF.out _).mono ?_; rintro e w1 ⟨rfl, hG1⟩; clear HF; replace b0 := b0.keep hG1; replace d0 := d0.keep hG1; replace g0 := g0.t hG1; clear hG1; have m0 := b0.cell 0; have m1 := b0.cell 1; have m2 := b0.cell 2; have m3 := b0.cell 3; have m4 := b0.cell 4; have n0 := d0.cell 0; have n1 := d0.cell 1; have n2 := d0.cell 2; have n3 := d0.cell 3; have n4 := d0.cell 4; have n5 := d0.cell 5; have n6 := d0.cell 6; have n7 := d0.cell 7; have l0 := b0.lt; have l1 := d0.lt))
    go_ret
    exact ⟨by first | rfl | (simp; done), g0⟩
def dutB (b : Int) (d : Du) : Bool := upB d.mb 99 && (upB d.bk (b - 1) && (upB d.to 9999 && upB d.fr d.to))
set_option maxRecDepth 100000 in
set_option maxHeartbeats 8000000 in
theorem duty_any (c : Cv) (d : Du) (w : World) (h1 : IntKind.i64.wrap (c.bks - 1) = c.bks - 1) : Calls Tryz.prog 88 #[.agg c.v, .agg d.v] w fun e w' => e = .returned (.bool (dutB c.bks d)) ∧ G w w' := by
  unfold dutB
  have HM := Lib.hid (fun (W : World) => member_any d.mb W)
  have HK := Lib.hid (fun (W : World) => basket_any c d.bk W h1)
  have HT := Lib.hid (fun (W : World) => minute_any d.to W)
  have HF := Lib.hid (fun (W : World) => upTo_any d.fr d.to W)
  clear h1
  obtain ⟨ybks, ybds, yaa, yac, yacts, yda, ydc, yduties, yen⟩ := c
  obtain ⟨zmb, zbk, zfr, zto⟩ := d
  unfold Cv.v Du.v at *
  dsimp only at *
  obtain ⟨g0, b0, d0⟩ := box2 w #[.int .i64 ybks, .int .i64 ybds, .slice yaa yacts.length yac, .slice yda yduties.length ydc, .int .i64 yen] #[.int .i64 zmb, .int .i64 zbk, .int .i64 zfr, .int .i64 zto] 25 56
  generalize upB zmb 99 = A at *
  generalize upB zbk (ybks - 1) = B at *
  generalize upB zto 9999 = C at *
  generalize upB zfr zto = D at *
  have key := and4 A B C
  rcases key with rfl | ⟨rfl, rfl⟩ | ⟨rfl, rfl, rfl⟩ | ⟨rfl, rfl, rfl⟩
  all_goals
    go_enter Tryz.func88, Tryz.ntmps88
    go_wp2_with (first | (go_at_call 39; refine (HM.out _).mono ?_; rintro e w1 ⟨rfl, hG1⟩; clear HM; replace b0 := b0.keep hG1; replace d0 := d0.keep hG1; replace g0 := g0.t hG1; clear hG1; have m0 := b0.cell 0; have m1 := b0.cell 1; have m2 := b0.cell 2; have m3 := b0.cell 3; have m4 := b0.cell 4; have n0 := d0.cell 0; have n1 := d0.cell 1; have n2 := d0.cell 2; have n3 := d0.cell 3; have l0 := b0.lt; have l1 := d0.lt) | (go_at_call 56; refine (HK.out _).mono ?_; rintro e w1 ⟨rfl, hG1⟩; clear HK; replace b0 := b0.keep hG1; replace d0 := d0.keep hG1; replace g0 := g0.t hG1; clear hG1; have m0 := b0.cell 0; have m1 := b0.cell 1; have m2 := b0.cell 2; have m3 := b0.cell 3; have m4 := b0.cell 4; have n0 := d0.cell 0; have n1 := d0.cell 1; have n2 := d0.cell 2; have n3 := d0.cell 3; have l0 := b0.lt; have l1 := d0.lt) | (go_at_call 58; refine (HT.out _).mono ?_; rintro e w1 ⟨rfl, hG1⟩; clear HT; replace b0 := b0.keep hG1; replace d0 := d0.keep hG1; replace g0 := g0.t hG1; clear hG1; have m0 := b0.cell 0; have m1 := b0.cell 1; have m2 := b0.cell 2; have m3 := b0.cell 3; have m4 := b0.cell 4; have n0 := d0.cell 0; have n1 := d0.cell 1; have n2 := d0.cell 2; have n3 := d0.cell 3; have l0 := b0.lt; have l1 := d0.lt) | (go_at_call 75; refine (HF.out _).mono ?_; rintro e w1 ⟨rfl, hG1⟩; clear HF; replace b0 := b0.keep hG1; replace d0 := d0.keep hG1; replace g0 := g0.t hG1; clear hG1; have m0 := b0.cell 0; have m1 := b0.cell 1; have m2 := b0.cell 2; have m3 := b0.cell 3; have m4 := b0.cell 4; have n0 := d0.cell 0; have n1 := d0.cell 1; have n2 := d0.cell 2; have n3 := d0.cell 3; have l0 := b0.lt; have l1 := d0.lt))
    go_ret
    exact ⟨by first | rfl | (simp; done), g0⟩
theorem actF (c : Cv) (a : Ac) (B : Nat) (W : World) (hB : Blk W B 25 c.v) (h1 : IntKind.i64.wrap (c.bks - 1) = c.bks - 1) (h2 : IntKind.i64.wrap (c.bds - 1) = c.bds - 1) : Calls Tryz.prog 84 #[.agg a.v, .pointer (some ⟨B, 0, none⟩)] W fun e w' => e = .returned (.bool (actB c.bks c.bds c.en a)) ∧ G W w' := by
  have HA := Lib.hid (fun (W : World) => act_any c a W h1 h2)
  clear h1 h2
  generalize actB c.bks c.bds c.en a = D at *
  obtain ⟨ybks, ybds, yaa, yac, yacts, yda, ydc, yduties, yen⟩ := c
  obtain ⟨yid, ytm, ykd, ybk, ybd, ym1, ym2, ysl⟩ := a
  unfold Cv.v Ac.v at *
  dsimp only at *
  have g0 : G W (W.alloc (.cells #[.int .i64 yid, .int .i64 ytm, .int .i64 ykd, .int .i64 ybk, .int .i64 ybd, .int .i64 ym1, .int .i64 ym2, .int .i64 ysl] 54)) := (G.rf _).a _
  have b0 := hB.keep g0
  have d0 : Blk (W.alloc (.cells #[.int .i64 yid, .int .i64 ytm, .int .i64 ykd, .int .i64 ybk, .int .i64 ybd, .int .i64 ym1, .int .i64 ym2, .int .i64 ysl] 54)) W.heap.size 54 #[.int .i64 yid, .int .i64 ytm, .int .i64 ykd, .int .i64 ybk, .int .i64 ybd, .int .i64 ym1, .int .i64 ym2, .int .i64 ysl] := Blk.new _ _ _
  have m0 := b0.cell 0; have m1 := b0.cell 1; have m2 := b0.cell 2; have m3 := b0.cell 3; have m4 := b0.cell 4
  have l0 := b0.lt
  go_enter Tryz.func84, Tryz.ntmps84
  go_wp2_with (go_at_call 85; refine (HA.out _).mono ?_; rintro e w1 ⟨rfl, hG1⟩; replace g0 := g0.t hG1; clear hG1)
  go_ret
  exact ⟨rfl, g0⟩
theorem dutF (c : Cv) (d : Du) (B : Nat) (W : World) (hB : Blk W B 25 c.v) (h1 : IntKind.i64.wrap (c.bks - 1) = c.bks - 1) : Calls Tryz.prog 87 #[.agg d.v, .pointer (some ⟨B, 0, none⟩)] W fun e w' => e = .returned (.bool (dutB c.bks d)) ∧ G W w' := by
  have HA := Lib.hid (fun (W : World) => duty_any c d W h1)
  clear h1
  generalize dutB c.bks d = D at *
  obtain ⟨ybks, ybds, yaa, yac, yacts, yda, ydc, yduties, yen⟩ := c
  obtain ⟨zmb, zbk, zfr, zto⟩ := d
  unfold Cv.v Du.v at *
  dsimp only at *
  have g0 : G W (W.alloc (.cells #[.int .i64 zmb, .int .i64 zbk, .int .i64 zfr, .int .i64 zto] 56)) := (G.rf _).a _
  have b0 := hB.keep g0
  have d0 : Blk (W.alloc (.cells #[.int .i64 zmb, .int .i64 zbk, .int .i64 zfr, .int .i64 zto] 56)) W.heap.size 56 #[.int .i64 zmb, .int .i64 zbk, .int .i64 zfr, .int .i64 zto] := Blk.new _ _ _
  have m0 := b0.cell 0; have m1 := b0.cell 1; have m2 := b0.cell 2; have m3 := b0.cell 3; have m4 := b0.cell 4
  have l0 := b0.lt
  go_enter Tryz.func87, Tryz.ntmps87
  go_wp2_with (go_at_call 88; refine (HA.out _).mono ?_; rintro e w1 ⟨rfl, hG1⟩; replace g0 := g0.t hG1; clear hG1)
  go_ret
  exact ⟨rfl, g0⟩
end Go.Proofs.YtabnpimidhlbiaaGreat

set_option linter.unusedSimpArgs false
set_option linter.unusedVariables false
namespace Go.Proofs.YtabnpimidhlbiaaGreat
open Go.RowKit Go.Shelf
attribute [local go_sem] Oper.semAt_some
def vcB (c : Cv) : Bool := decide (1 ≤ c.bks) && (decide (c.bks ≤ 6) && (upB c.bds 12 && (upB c.en 9999 && (decide (c.acts.length ≤ 40) && (allU (fun i => actB c.bks c.bds c.en (c.acts.getD i default)) c.acts.length && (decide (c.duties.length ≤ 20) && allU (fun i => dutB c.bks (c.duties.getD i default)) c.duties.length))))))
set_option maxRecDepth 100000 in
set_option maxHeartbeats 8000000 in
theorem convoy_any (c : Cv) (w : World) (h : c.At w) : Calls Tryz.prog 62 #[.agg c.v] w fun e w' => e = .returned (.bool (vcB c)) ∧ G w w' := by
  unfold vcB
  have HU := Lib.hid (fun (W : World) => upTo_any c.bds 12 W)
  have HM := Lib.hid (fun (W : World) => minute_any c.en W)
  have HE := Lib.hid (fun (W : World) (hW : G w W) (hB : Blk W w.heap.size 25 c.v) => eachAc_any 84 (enters_of Tryz.func84 (by kernel_rfl) rfl) #[.pointer (some ⟨w.heap.size, 0, none⟩)] W c.aa c.ac c.acts (fun i => actB c.bks c.bds c.en (c.acts.getD i default)) h.na (h.ra.below hW) (fun W' hW' i hi => actF c _ w.heap.size W' (hB.keep hW') h.b1 h.b2))
  have HD := Lib.hid (fun (W : World) (hW : G w W) (hB : Blk W w.heap.size 25 c.v) => eachDu_any 87 (enters_of Tryz.func87 (by kernel_rfl) rfl) #[.pointer (some ⟨w.heap.size, 0, none⟩)] W c.da c.dc c.duties (fun i => dutB c.bks (c.duties.getD i default)) h.nd (h.rd.below hW) (fun W' hW' i hi => dutF c _ w.heap.size W' (hB.keep hW') h.b1))
  have hna := h.na
  have hnd := h.nd
  clear h
  generalize allU (fun i => actB c.bks c.bds c.en (c.acts.getD i default)) c.acts.length = C at *
  generalize allU (fun i => dutB c.bks (c.duties.getD i default)) c.duties.length = D at *
  obtain ⟨ybks, ybds, yaa, yac, yacts, yda, ydc, yduties, yen⟩ := c
  unfold Cv.v at *
  dsimp only at *
  have g0 : G w (w.alloc (.cells #[.int .i64 ybks, .int .i64 ybds, .slice yaa yacts.length yac, .slice yda yduties.length ydc, .int .i64 yen] 25)) := (G.rf _).a _
  have b0 : Blk (w.alloc (.cells #[.int .i64 ybks, .int .i64 ybds, .slice yaa yacts.length yac, .slice yda yduties.length ydc, .int .i64 yen] 25)) w.heap.size 25 #[.int .i64 ybks, .int .i64 ybds, .slice yaa yacts.length yac, .slice yda yduties.length ydc, .int .i64 yen] := Blk.new _ _ _
  generalize upB ybds 12 = A at *
  generalize upB yen 9999 = B at *
  by_cases p1 : 1 ≤ ybks
  case neg =>
    rw [decide_eq_false p1]
    go_enter Tryz.func62, Tryz.ntmps62
    go_wp2_with (first | (go_at_call 75; refine (HU.out _).mono ?_; rintro e w1 ⟨rfl, hG1⟩; clear HU; replace b0 := b0.keep hG1; replace g0 := g0.t hG1; clear hG1; have m0 := b0.cell 0; have m1 := b0.cell 1; have m2 := b0.cell 2; have m3 := b0.cell 3; have m4 := b0.cell 4; have l0 := b0.lt) | (go_at_call 58; refine (HM.out _).mono ?_; rintro e w1 ⟨rfl, hG1⟩; clear HM; replace b0 := b0.keep hG1; replace g0 := g0.t hG1; clear hG1; have m0 := b0.cell 0; have m1 := b0.cell 1; have m2 := b0.cell 2; have m3 := b0.cell 3; have m4 := b0.cell 4; have l0 := b0.lt) | (go_at_call 83; refine (HE.out _ g0 b0).mono ?_; rintro e w1 ⟨rfl, hG1⟩; clear HE; replace b0 := b0.keep hG1; replace g0 := g0.t hG1; clear hG1; have m0 := b0.cell 0; have m1 := b0.cell 1; have m2 := b0.cell 2; have m3 := b0.cell 3; have m4 := b0.cell 4; have l0 := b0.lt) | (go_at_call 86; refine (HD.out _ g0 b0).mono ?_; rintro e w1 ⟨rfl, hG1⟩; clear HD; replace b0 := b0.keep hG1; replace g0 := g0.t hG1; clear hG1; have m0 := b0.cell 0; have m1 := b0.cell 1; have m2 := b0.cell 2; have m3 := b0.cell 3; have m4 := b0.cell 4; have l0 := b0.lt))
    go_ret
    exact ⟨by first | rfl | (simp; done) | (simp_all; done), g0⟩
  rw [decide_eq_true p1]
  by_cases p2 : ybks ≤ 6
  case neg =>
    rw [decide_eq_false p2]
    go_enter Tryz.func62, Tryz.ntmps62
    go_wp2_with (first | (go_at_call 75; refine (HU.out _).mono ?_; rintro e w1 ⟨rfl, hG1⟩; clear HU; replace b0 := b0.keep hG1; replace g0 := g0.t hG1; clear hG1; have m0 := b0.cell 0; have m1 := b0.cell 1; have m2 := b0.cell 2; have m3 := b0.cell 3; have m4 := b0.cell 4; have l0 := b0.lt) | (go_at_call 58; refine (HM.out _).mono ?_; rintro e w1 ⟨rfl, hG1⟩; clear HM; replace b0 := b0.keep hG1; replace g0 := g0.t hG1; clear hG1; have m0 := b0.cell 0; have m1 := b0.cell 1; have m2 := b0.cell 2; have m3 := b0.cell 3; have m4 := b0.cell 4; have l0 := b0.lt) | (go_at_call 83; refine (HE.out _ g0 b0).mono ?_; rintro e w1 ⟨rfl, hG1⟩; clear HE; replace b0 := b0.keep hG1; replace g0 := g0.t hG1; clear hG1; have m0 := b0.cell 0; have m1 := b0.cell 1; have m2 := b0.cell 2; have m3 := b0.cell 3; have m4 := b0.cell 4; have l0 := b0.lt) | (go_at_call 86; refine (HD.out _ g0 b0).mono ?_; rintro e w1 ⟨rfl, hG1⟩; clear HD; replace b0 := b0.keep hG1; replace g0 := g0.t hG1; clear hG1; have m0 := b0.cell 0; have m1 := b0.cell 1; have m2 := b0.cell 2; have m3 := b0.cell 3; have m4 := b0.cell 4; have l0 := b0.lt))
    go_ret
    exact ⟨by first | rfl | (simp; done) | (simp_all; done), g0⟩
  rw [decide_eq_true p2]
  cases A
  case false =>
    go_enter Tryz.func62, Tryz.ntmps62
    go_wp2_with (first | (go_at_call 75; refine (HU.out _).mono ?_; rintro e w1 ⟨rfl, hG1⟩; clear HU; replace b0 := b0.keep hG1; replace g0 := g0.t hG1; clear hG1; have m0 := b0.cell 0; have m1 := b0.cell 1; have m2 := b0.cell 2; have m3 := b0.cell 3; have m4 := b0.cell 4; have l0 := b0.lt) | (go_at_call 58; refine (HM.out _).mono ?_; rintro e w1 ⟨rfl, hG1⟩; clear HM; replace b0 := b0.keep hG1; replace g0 := g0.t hG1; clear hG1; have m0 := b0.cell 0; have m1 := b0.cell 1; have m2 := b0.cell 2; have m3 := b0.cell 3; have m4 := b0.cell 4; have l0 := b0.lt) | (go_at_call 83; refine (HE.out _ g0 b0).mono ?_; rintro e w1 ⟨rfl, hG1⟩; clear HE; replace b0 := b0.keep hG1; replace g0 := g0.t hG1; clear hG1; have m0 := b0.cell 0; have m1 := b0.cell 1; have m2 := b0.cell 2; have m3 := b0.cell 3; have m4 := b0.cell 4; have l0 := b0.lt) | (go_at_call 86; refine (HD.out _ g0 b0).mono ?_; rintro e w1 ⟨rfl, hG1⟩; clear HD; replace b0 := b0.keep hG1; replace g0 := g0.t hG1; clear hG1; have m0 := b0.cell 0; have m1 := b0.cell 1; have m2 := b0.cell 2; have m3 := b0.cell 3; have m4 := b0.cell 4; have l0 := b0.lt))
    go_ret
    exact ⟨by first | rfl | (simp; done) | (simp_all; done), g0⟩
  cases B
  case false =>
    go_enter Tryz.func62, Tryz.ntmps62
    go_wp2_with (first | (go_at_call 75; refine (HU.out _).mono ?_; rintro e w1 ⟨rfl, hG1⟩; clear HU; replace b0 := b0.keep hG1; replace g0 := g0.t hG1; clear hG1; have m0 := b0.cell 0; have m1 := b0.cell 1; have m2 := b0.cell 2; have m3 := b0.cell 3; have m4 := b0.cell 4; have l0 := b0.lt) | (go_at_call 58; refine (HM.out _).mono ?_; rintro e w1 ⟨rfl, hG1⟩; clear HM; replace b0 := b0.keep hG1; replace g0 := g0.t hG1; clear hG1; have m0 := b0.cell 0; have m1 := b0.cell 1; have m2 := b0.cell 2; have m3 := b0.cell 3; have m4 := b0.cell 4; have l0 := b0.lt) | (go_at_call 83; refine (HE.out _ g0 b0).mono ?_; rintro e w1 ⟨rfl, hG1⟩; clear HE; replace b0 := b0.keep hG1; replace g0 := g0.t hG1; clear hG1; have m0 := b0.cell 0; have m1 := b0.cell 1; have m2 := b0.cell 2; have m3 := b0.cell 3; have m4 := b0.cell 4; have l0 := b0.lt) | (go_at_call 86; refine (HD.out _ g0 b0).mono ?_; rintro e w1 ⟨rfl, hG1⟩; clear HD; replace b0 := b0.keep hG1; replace g0 := g0.t hG1; clear hG1; have m0 := b0.cell 0; have m1 := b0.cell 1; have m2 := b0.cell 2; have m3 := b0.cell 3; have m4 := b0.cell 4; have l0 := b0.lt))
    go_ret
    exact ⟨by first | rfl | (simp; done) | (simp_all; done), g0⟩
  by_cases p3 : yacts.length ≤ 40
  case neg =>
    rw [decide_eq_false p3]
    have p3i : ¬ ((yacts.length : Int) ≤ 40) := by omega
    go_enter Tryz.func62, Tryz.ntmps62
    go_wp2_with (first | (go_at_call 75; refine (HU.out _).mono ?_; rintro e w1 ⟨rfl, hG1⟩; clear HU; replace b0 := b0.keep hG1; replace g0 := g0.t hG1; clear hG1; have m0 := b0.cell 0; have m1 := b0.cell 1; have m2 := b0.cell 2; have m3 := b0.cell 3; have m4 := b0.cell 4; have l0 := b0.lt) | (go_at_call 58; refine (HM.out _).mono ?_; rintro e w1 ⟨rfl, hG1⟩; clear HM; replace b0 := b0.keep hG1; replace g0 := g0.t hG1; clear hG1; have m0 := b0.cell 0; have m1 := b0.cell 1; have m2 := b0.cell 2; have m3 := b0.cell 3; have m4 := b0.cell 4; have l0 := b0.lt) | (go_at_call 83; refine (HE.out _ g0 b0).mono ?_; rintro e w1 ⟨rfl, hG1⟩; clear HE; replace b0 := b0.keep hG1; replace g0 := g0.t hG1; clear hG1; have m0 := b0.cell 0; have m1 := b0.cell 1; have m2 := b0.cell 2; have m3 := b0.cell 3; have m4 := b0.cell 4; have l0 := b0.lt) | (go_at_call 86; refine (HD.out _ g0 b0).mono ?_; rintro e w1 ⟨rfl, hG1⟩; clear HD; replace b0 := b0.keep hG1; replace g0 := g0.t hG1; clear hG1; have m0 := b0.cell 0; have m1 := b0.cell 1; have m2 := b0.cell 2; have m3 := b0.cell 3; have m4 := b0.cell 4; have l0 := b0.lt))
    go_ret
    exact ⟨by first | rfl | (simp; done) | (simp_all; done), g0⟩
  rw [decide_eq_true p3]
  have p3i : (yacts.length : Int) ≤ 40 := by omega
  cases C
  case false =>
    go_enter Tryz.func62, Tryz.ntmps62
    go_wp2_with (first | (go_at_call 75; refine (HU.out _).mono ?_; rintro e w1 ⟨rfl, hG1⟩; clear HU; replace b0 := b0.keep hG1; replace g0 := g0.t hG1; clear hG1; have m0 := b0.cell 0; have m1 := b0.cell 1; have m2 := b0.cell 2; have m3 := b0.cell 3; have m4 := b0.cell 4; have l0 := b0.lt) | (go_at_call 58; refine (HM.out _).mono ?_; rintro e w1 ⟨rfl, hG1⟩; clear HM; replace b0 := b0.keep hG1; replace g0 := g0.t hG1; clear hG1; have m0 := b0.cell 0; have m1 := b0.cell 1; have m2 := b0.cell 2; have m3 := b0.cell 3; have m4 := b0.cell 4; have l0 := b0.lt) | (go_at_call 83; refine (HE.out _ g0 b0).mono ?_; rintro e w1 ⟨rfl, hG1⟩; clear HE; replace b0 := b0.keep hG1; replace g0 := g0.t hG1; clear hG1; have m0 := b0.cell 0; have m1 := b0.cell 1; have m2 := b0.cell 2; have m3 := b0.cell 3; have m4 := b0.cell 4; have l0 := b0.lt) | (go_at_call 86; refine (HD.out _ g0 b0).mono ?_; rintro e w1 ⟨rfl, hG1⟩; clear HD; replace b0 := b0.keep hG1; replace g0 := g0.t hG1; clear hG1; have m0 := b0.cell 0; have m1 := b0.cell 1; have m2 := b0.cell 2; have m3 := b0.cell 3; have m4 := b0.cell 4; have l0 := b0.lt))
    go_ret
    exact ⟨by first | rfl | (simp; done) | (simp_all; done), g0⟩
  by_cases p4 : yduties.length ≤ 20
  case neg =>
    rw [decide_eq_false p4]
    have p4i : ¬ ((yduties.length : Int) ≤ 20) := by omega
    go_enter Tryz.func62, Tryz.ntmps62
    go_wp2_with (first | (go_at_call 75; refine (HU.out _).mono ?_; rintro e w1 ⟨rfl, hG1⟩; clear HU; replace b0 := b0.keep hG1; replace g0 := g0.t hG1; clear hG1; have m0 := b0.cell 0; have m1 := b0.cell 1; have m2 := b0.cell 2; have m3 := b0.cell 3; have m4 := b0.cell 4; have l0 := b0.lt) | (go_at_call 58; refine (HM.out _).mono ?_; rintro e w1 ⟨rfl, hG1⟩; clear HM; replace b0 := b0.keep hG1; replace g0 := g0.t hG1; clear hG1; have m0 := b0.cell 0; have m1 := b0.cell 1; have m2 := b0.cell 2; have m3 := b0.cell 3; have m4 := b0.cell 4; have l0 := b0.lt) | (go_at_call 83; refine (HE.out _ g0 b0).mono ?_; rintro e w1 ⟨rfl, hG1⟩; clear HE; replace b0 := b0.keep hG1; replace g0 := g0.t hG1; clear hG1; have m0 := b0.cell 0; have m1 := b0.cell 1; have m2 := b0.cell 2; have m3 := b0.cell 3; have m4 := b0.cell 4; have l0 := b0.lt) | (go_at_call 86; refine (HD.out _ g0 b0).mono ?_; rintro e w1 ⟨rfl, hG1⟩; clear HD; replace b0 := b0.keep hG1; replace g0 := g0.t hG1; clear hG1; have m0 := b0.cell 0; have m1 := b0.cell 1; have m2 := b0.cell 2; have m3 := b0.cell 3; have m4 := b0.cell 4; have l0 := b0.lt))
    go_ret
    exact ⟨by first | rfl | (simp; done) | (simp_all; done), g0⟩
  rw [decide_eq_true p4]
  have p4i : (yduties.length : Int) ≤ 20 := by omega
  go_enter Tryz.func62, Tryz.ntmps62
  go_wp2_with (first | (go_at_call 75; refine (HU.out _).mono ?_; rintro e w1 ⟨rfl, hG1⟩; clear HU; replace b0 := b0.keep hG1; replace g0 := g0.t hG1; clear hG1; have m0 := b0.cell 0; have m1 := b0.cell 1; have m2 := b0.cell 2; have m3 := b0.cell 3; have m4 := b0.cell 4; have l0 := b0.lt) | (go_at_call 58; refine (HM.out _).mono ?_; rintro e w1 ⟨rfl, hG1⟩; clear HM; replace b0 := b0.keep hG1; replace g0 := g0.t hG1; clear hG1; have m0 := b0.cell 0; have m1 := b0.cell 1; have m2 := b0.cell 2; have m3 := b0.cell 3; have m4 := b0.cell 4; have l0 := b0.lt) | (go_at_call 83; refine (HE.out _ g0 b0).mono ?_; rintro e w1 ⟨rfl, hG1⟩; clear HE; replace b0 := b0.keep hG1; replace g0 := g0.t hG1; clear hG1; have m0 := b0.cell 0; have m1 := b0.cell 1; have m2 := b0.cell 2; have m3 := b0.cell 3; have m4 := b0.cell 4; have l0 := b0.lt) | (go_at_call 86; refine (HD.out _ g0 b0).mono ?_; rintro e w1 ⟨rfl, hG1⟩; clear HD; replace b0 := b0.keep hG1; replace g0 := g0.t hG1; clear hG1; have m0 := b0.cell 0; have m1 := b0.cell 1; have m2 := b0.cell 2; have m3 := b0.cell 3; have m4 := b0.cell 4; have l0 := b0.lt))
  go_ret
  exact ⟨by first | rfl | (simp; done) | (simp_all; done), g0⟩
end Go.Proofs.YtabnpimidhlbiaaGreat

set_option linter.unusedSimpArgs false
set_option linter.unusedVariables false
namespace Go.Proofs.YtabnpimidhlbiaaGreat
open Go.RowKit Go.Shelf
attribute [local go_sem] Oper.semAt_some
theorem eqIn54 (d : Nat) (yid ytm ykd ybk ybd ym1 ym2 ysl zid ztm zkd zbk zbd zm1 zm2 zsl : Int) (w : World) : (Op.equalIn (d + 1 + 1) 54 (.agg #[.int .i64 yid, .int .i64 ytm, .int .i64 ykd, .int .i64 ybk, .int .i64 ybd, .int .i64 ym1, .int .i64 ym2, .int .i64 ysl]) (.agg #[.int .i64 zid, .int .i64 ztm, .int .i64 zkd, .int .i64 zbk, .int .i64 zbd, .int .i64 zm1, .int .i64 zm2, .int .i64 zsl])).run Tryz.prog w = .ok (acB ⟨yid, ytm, ykd, ybk, ybd, ym1, ym2, ysl⟩ ⟨zid, ztm, zkd, zbk, zbd, zm1, zm2, zsl⟩) w := by
  have u3 := Tryz.underlying3
  have hS : Tryz.prog.underlying 54 = some (.struct (Tryz.prog.fieldsOf 54)) := by kernel_rfl
  have hp : Tryz.prog.stoodInHeld 54 = false := by kernel_rfl
  rw [run_equalIn_agg w (d + 1) 54 _ _ hS hp]
  simp only [Program.fieldsOf, Tryz.underlying54]
  unfold acB
  go_simp
  by_cases h1 : yid = zid
  case neg => simp [h1]
  by_cases h2 : ytm = ztm
  case neg => simp [h1, h2]
  by_cases h3 : ykd = zkd
  case neg => simp [h1, h2, h3]
  by_cases h4 : ybk = zbk
  case neg => simp [h1, h2, h3, h4]
  by_cases h5 : ybd = zbd
  case neg => simp [h1, h2, h3, h4, h5]
  by_cases h6 : ym1 = zm1
  case neg => simp [h1, h2, h3, h4, h5, h6]
  by_cases h7 : ym2 = zm2
  case neg => simp [h1, h2, h3, h4, h5, h6, h7]
  by_cases h8 : ysl = zsl <;> simp [h1, h2, h3, h4, h5, h6, h7, h8]
theorem neq54 (yid ytm ykd ybk ybd ym1 ym2 ysl zid ztm zkd zbk zbd zm1 zm2 zsl : Int) (w : World) : (binOp .neq 54 (.agg #[.int .i64 yid, .int .i64 ytm, .int .i64 ykd, .int .i64 ybk, .int .i64 ybd, .int .i64 ym1, .int .i64 ym2, .int .i64 ysl]) (.agg #[.int .i64 zid, .int .i64 ztm, .int .i64 zkd, .int .i64 zbk, .int .i64 zbd, .int .i64 zm1, .int .i64 zm2, .int .i64 zsl])).run Tryz.prog w = .ok (.bool (!acB ⟨yid, ytm, ykd, ybk, ybd, ym1, ym2, ysl⟩ ⟨zid, ztm, zkd, zbk, zbd, zm1, zm2, zsl⟩)) w := by
  rw [run_neq_struct, show (10000 : Nat) = 9998 + 1 + 1 from rfl, eqIn54]; rfl
/-- do the numbers of two acts clash? -/
def clB (a b : Ac) : Bool := decide (a.id = b.id) && !acB a b
set_option maxRecDepth 100000 in
set_option maxHeartbeats 4000000 in
theorem clash2_any (a b : Ac) (B : Nat) (w : World) (hB : Blk w B 54 a.v) : Calls Tryz.prog 90 #[.agg b.v, .pointer (some ⟨B, 0, none⟩)] w fun e w' => e = .returned (.bool (clB a b)) ∧ G w w' := by
  unfold clB
  obtain ⟨yid, ytm, ykd, ybk, ybd, ym1, ym2, ysl⟩ := a
  obtain ⟨zid, ztm, zkd, zbk, zbd, zm1, zm2, zsl⟩ := b
  unfold Ac.v at *
  dsimp only at *
  have HN := Lib.hid (fun W => neq54 yid ytm ykd ybk ybd ym1 ym2 ysl zid ztm zkd zbk zbd zm1 zm2 zsl W)
  generalize acB ⟨yid, ytm, ykd, ybk, ybd, ym1, ym2, ysl⟩ ⟨zid, ztm, zkd, zbk, zbd, zm1, zm2, zsl⟩ = E at *
  have g0 : G w (w.alloc (.cells #[.int .i64 zid, .int .i64 ztm, .int .i64 zkd, .int .i64 zbk, .int .i64 zbd, .int .i64 zm1, .int .i64 zm2, .int .i64 zsl] 54)) := (G.rf _).a _
  have b0 := hB.keep g0
  have d0 : Blk (w.alloc (.cells #[.int .i64 zid, .int .i64 ztm, .int .i64 zkd, .int .i64 zbk, .int .i64 zbd, .int .i64 zm1, .int .i64 zm2, .int .i64 zsl] 54)) w.heap.size 54 #[.int .i64 zid, .int .i64 ztm, .int .i64 zkd, .int .i64 zbk, .int .i64 zbd, .int .i64 zm1, .int .i64 zm2, .int .i64 zsl] := Blk.new _ _ _
  have m0 := b0.cell 0
  have m1 := b0.cell 1
  have m2 := b0.cell 2
  have m3 := b0.cell 3
  have m4 := b0.cell 4
  have m5 := b0.cell 5
  have m6 := b0.cell 6
  have m7 := b0.cell 7
  have l0 := b0.lt
  clear hB
  by_cases h : yid = zid
  · subst h
    have HN2 := HN.out
    go_enter Tryz.func90, Tryz.ntmps90
    go_wp2_with fail
    go_ret
    exact ⟨by first | rfl | (simp; done), g0⟩
  · have h2 : (yid == zid) = false := by simpa using h
    go_enter Tryz.func90, Tryz.ntmps90
    go_wp2_with fail
    go_ret
    exact ⟨by first | rfl | (simp [h]; done), g0⟩
def clashB (l : List Ac) : Bool := anyU (fun i => anyU (fun k => clB (l.getD i default) (l.getD k default)) l.length) l.length
theorem clash1_any (l : List Ac) (aa : Option Addr) (ac : Nat) (a : Ac) (B : Nat) (w : World) (hB : Blk w B 22 #[.slice aa l.length ac]) (hr : RowE Ac.v 8 w aa l) (hn : l.length ≤ 1000) : Calls Tryz.prog 89 #[.agg a.v, .pointer (some ⟨B, 0, none⟩)] w fun e w' => e = .returned (.bool (anyU (fun k => clB a (l.getD k default)) l.length)) ∧ G w w' := by
  have HC := Lib.hid (fun (W : World) (hW : G w W) (hA : Blk W w.heap.size 54 a.v) => CtAc_any 90 (enters_of Tryz.func90 (by kernel_rfl) rfl) #[.pointer (some ⟨w.heap.size, 0, none⟩)] W aa ac l (fun k => clB a (l.getD k default)) hn (hr.below hW) (fun W' hW' i hi => clash2_any a _ w.heap.size W' (hA.keep hW')))
  clear hr hn
  generalize anyU (fun k => clB a (l.getD k default)) l.length = R at *
  obtain ⟨yid, ytm, ykd, ybk, ybd, ym1, ym2, ysl⟩ := a
  unfold Ac.v at *
  dsimp only at *
  have g0 : G w (w.alloc (.cells #[.int .i64 yid, .int .i64 ytm, .int .i64 ykd, .int .i64 ybk, .int .i64 ybd, .int .i64 ym1, .int .i64 ym2, .int .i64 ysl] 54)) := (G.rf _).a _
  have b0 := hB.keep g0
  have d0 : Blk (w.alloc (.cells #[.int .i64 yid, .int .i64 ytm, .int .i64 ykd, .int .i64 ybk, .int .i64 ybd, .int .i64 ym1, .int .i64 ym2, .int .i64 ysl] 54)) w.heap.size 54 #[.int .i64 yid, .int .i64 ytm, .int .i64 ykd, .int .i64 ybk, .int .i64 ybd, .int .i64 ym1, .int .i64 ym2, .int .i64 ysl] := Blk.new _ _ _
  have m0 := b0.cell 0
  have l0 := b0.lt
  clear hB
  go_enter Tryz.func89, Tryz.ntmps89
  go_wp2_with (go_at_call 42; refine (HC.out _ g0 d0).mono ?_; rintro e w1 ⟨rfl, hG1⟩; replace g0 := g0.t hG1; clear hG1)
  go_ret
  exact ⟨rfl, g0⟩
theorem clash_any (l : List Ac) (aa : Option Addr) (ac : Nat) (w : World) (hr : RowE Ac.v 8 w aa l) (hn : l.length ≤ 1000) : Calls Tryz.prog 63 #[.slice aa l.length ac] w fun e w' => e = .returned (.bool (clashB l)) ∧ G w w' := by
  have HC := Lib.hid (fun (W : World) (hW : G w W) (hA : Blk W w.heap.size 22 #[.slice aa l.length ac]) => CtAc_any 89 (enters_of Tryz.func89 (by kernel_rfl) rfl) #[.pointer (some ⟨w.heap.size, 0, none⟩)] W aa ac l (fun i => anyU (fun k => clB (l.getD i default) (l.getD k default)) l.length) hn (hr.below hW) (fun W' hW' i hi => clash1_any l aa ac _ w.heap.size W' (hA.keep hW') (hr.below (hW.t hW')) hn))
  clear hr hn
  unfold clashB
  generalize anyU (fun i => anyU (fun k => clB (l.getD i default) (l.getD k default)) l.length) l.length = R at *
  have g0 : G w (w.alloc (.cells #[.slice aa l.length ac] 22)) := (G.rf _).a _
  have d0 : Blk (w.alloc (.cells #[.slice aa l.length ac] 22)) w.heap.size 22 #[.slice aa l.length ac] := Blk.new _ _ _
  go_enter Tryz.func63, Tryz.ntmps63
  go_wp2_with (go_at_call 42; refine (HC.out _ g0 d0).mono ?_; rintro e w1 ⟨rfl, hG1⟩; replace g0 := g0.t hG1; clear hG1)
  go_ret
  exact ⟨rfl, g0⟩
theorem anyU_iff {p : Nat → Bool} {n : Nat} : anyU p n = true ↔ ∃ i, i < n ∧ p i = true := by
  unfold anyU; simp [List.any_eq_true]
/-- no two acts clash just if acts with one number are one -/
theorem clashB_iff (l : List Ac) : clashB l = false ↔ OneId l := by
  constructor
  · intro h a ha b hb e
    obtain ⟨i, hi, rfl⟩ := List.getElem_of_mem ha
    obtain ⟨k, hk, rfl⟩ := List.getElem_of_mem hb
    refine Decidable.byContradiction fun hne => ?_
    have : clashB l = true := anyU_iff.2 ⟨i, hi, anyU_iff.2 ⟨k, hk, by
      unfold clB
      have e1 : l.getD i default = l[i] := by simp [List.getD, hi]
      have e2 : l.getD k default = l[k] := by simp [List.getD, hk]
      rw [e1, e2]
      have : acB l[i] l[k] = false := by
        cases h : acB l[i] l[k]
        · rfl
        · exact absurd ((acB_iff _ _).1 h) hne
      simp [e, this]⟩⟩
    rw [h] at this; exact absurd this (by simp)
  · intro h
    cases hc : clashB l
    · rfl
    obtain ⟨i, hi, hc2⟩ := anyU_iff.1 hc
    obtain ⟨k, hk, hc3⟩ := anyU_iff.1 hc2
    unfold clB at hc3
    simp only [Bool.and_eq_true, decide_eq_true_eq, Bool.not_eq_true'] at hc3
    have e1 : l.getD i default = l[i] := by simp [List.getD, hi]
    have e2 : l.getD k default = l[k] := by simp [List.getD, hk]
    rw [e1, e2] at hc3
    have := (acB_iff _ _).2 (h _ (List.getElem_mem hi) _ (List.getElem_mem hk) hc3.1)
    rw [this] at hc3; simp at hc3
end Go.Proofs.YtabnpimidhlbiaaGreat

set_option linter.unusedSimpArgs false
set_option linter.unusedVariables false
namespace Go.Proofs.YtabnpimidhlbiaaGreat
open Go.RowKit Go.Shelf
attribute [local go_sem] Oper.semAt_some
theorem whr_take (l : List Ac) (m b : Int) (k : Nat) (h : k < l.length) : whr (l.take (k + 1)) m b = whrS m b (whr (l.take k) m b) (l.getD k default) := by
  have e : l.getD k default = l[k] := by simp [List.getD, h]
  rw [List.take_add_one, List.getElem?_eq_getElem h, Option.toList_some, whr_snoc, e]
set_option maxRecDepth 100000 in
set_option maxHeartbeats 8000000 in
theorem where_any (l : List Ac) (pa : Option Addr) (pc J : Nat) (m b : Int) (w : World) (hJ : w.cell? ⟨J, 5, none⟩ = some (.slice pa l.length pc)) (lJ : J < w.heap.size) (hr : RowE Ac.v 8 w pa l) (hn : l.length ≤ 1000) :
    Calls Tryz.prog 60 #[.pointer (some ⟨J, 0, none⟩), .int .i64 m, .int .i64 b] w fun e w' => e = .returned (.int .i64 (whr l m b)) ∧ G w w' := by
  have HS := Lib.hid (fun k hk => whr_take l m b k hk)
  have HZ : Hid (whr (l.take 0) m b = -1) := rfl
  have HF : Hid (whr (l.take l.length) m b = whr l m b) := by show _ = _; rw [List.take_length]
  generalize whr l m b = R at *
  obtain ⟨V, hV⟩ : ∃ V : Nat → Int, V = fun k => whr (l.take k) m b := ⟨_, rfl⟩
  have HS : Hid (∀ k, k < l.length → V (k + 1) = whrS m b (V k) (l.getD k default)) := by rw [hV]; exact HS.out
  have HZ : Hid (V 0 = -1) := by rw [hV]; exact HZ.out
  have HF : Hid (V l.length = R) := by rw [hV]; exact HF.out
  clear hV
  go_enter Tryz.func60, Tryz.ntmps60
  go_wp2_with fail
  go_loopw [7, 15] (fun s i wr => ∃ k : Nat, k ≤ l.length ∧ s = .int .i64 (V k) ∧ i = .int .i64 k ∧ G w wr) (fun _ i _ => l.length - (intOf i).toNat)
  case atStart => exact ⟨0, Nat.zero_le _, by rw [HZ.out], rfl, G.rf _⟩
  case round =>
    obtain ⟨k, hk, rfl, rfl, hG⟩ := hrel
    by_cases hlt : k < l.length
    · have hki : (k : Int) < l.length := by omega
      rcases hr with h | ⟨g, off, rfl, hg, hcell⟩
      · omega
      have lg := Nat.lt_of_lt_of_le hg hG.size
      have hcl := fun r hr => ((bcellB hG).1 g _ hg).trans (hcell k hlt r hr)
      have HS2 := Lib.hid (HS.out k hlt)
      clear HS
      obtain ⟨y, hy⟩ : ∃ y, y = l.getD k default := ⟨_, rfl⟩
      rw [← hy] at hcl HS2
      clear hy
      obtain ⟨yid, ytm, ykd, ybk, ybd, ym1, ym2, ysl⟩ := y
      unfold Ac.v at hcl
      have q0 : wr.cell? ⟨g, off + k * 8, none⟩ = some (.int .i64 yid) := hcl 0 (by omega)
      have q1 : wr.cell? ⟨g, off + k * 8 + 1, none⟩ = some (.int .i64 ytm) := hcl 1 (by omega)
      have q2 : wr.cell? ⟨g, off + k * 8 + 2, none⟩ = some (.int .i64 ykd) := hcl 2 (by omega)
      have q3 : wr.cell? ⟨g, off + k * 8 + 3, none⟩ = some (.int .i64 ybk) := hcl 3 (by omega)
      have q4 : wr.cell? ⟨g, off + k * 8 + 4, none⟩ = some (.int .i64 ybd) := hcl 4 (by omega)
      have q5 : wr.cell? ⟨g, off + k * 8 + 5, none⟩ = some (.int .i64 ym1) := hcl 5 (by omega)
      have q6 : wr.cell? ⟨g, off + k * 8 + 6, none⟩ = some (.int .i64 ym2) := hcl 6 (by omega)
      have q7 : wr.cell? ⟨g, off + k * 8 + 7, none⟩ = some (.int .i64 ysl) := hcl 7 (by omega)
      clear hcl hcell
      unfold whrS at HS2
      dsimp only at HS2
      generalize V k = VK at *
      obtain ⟨VN, hVN⟩ : ∃ VN, VN = V (k + 1) := ⟨_, rfl⟩
      rw [← hVN] at HS2
      have HV : Hid (V (k + 1) = VN) := hVN.symm
      clear hVN
      by_cases c1 : m < ytm
      · obtain rfl : VN = VK := by rw [HS2.out, if_pos (.inl c1)]
        clear HS2
        go_wp2_with fail
        go_roundw
        case rel => exact ⟨k + 1, by omega, by rw [HV.out], by go_num, hG.a _⟩
        case measure => simp [intOf] <;> omega
      by_cases c2 : ybd = b
      case neg =>
        obtain rfl : VN = VK := by rw [HS2.out, if_pos (.inr c2)]
        clear HS2
        go_wp2_with fail
        go_roundw
        case rel => exact ⟨k + 1, by omega, by rw [HV.out], by go_num, hG.a _⟩
        case measure => simp [intOf] <;> omega
      subst c2
      by_cases c3 : ykd = 1
      · subst c3
        obtain rfl : VN = ybk := by rw [HS2.out, if_neg (by omega), if_pos rfl]
        clear HS2
        go_wp2_with fail
        go_roundw
        case rel => exact ⟨k + 1, by omega, by rw [HV.out], by go_num, hG.a _⟩
        case measure => simp [intOf] <;> omega
      have k1 : (ykd == 1) = false := by simpa using c3
      by_cases c4 : ykd = 2
      · subst c4
        obtain rfl : VN = -1 := by rw [HS2.out, if_neg (by omega), if_neg (by omega), if_pos rfl]
        clear HS2
        go_wp2_with fail
        go_roundw
        case rel => exact ⟨k + 1, by omega, by rw [HV.out], by go_num, hG.a _⟩
        case measure => simp [intOf] <;> omega
      have k2 : (ykd == 2) = false := by simpa using c4
      obtain rfl : VN = VK := by rw [HS2.out, if_neg (by omega), if_neg c3, if_neg c4]
      clear HS2
      go_wp2_with fail
      go_roundw
      case rel => exact ⟨k + 1, by omega, by rw [HV.out], by go_num, hG.a _⟩
      case measure => simp [intOf] <;> omega
    · obtain rfl : k = l.length := by omega
      have hki : ¬ ((l.length : Nat) : Int) < l.length := by omega
      go_wp2_with fail
      go_ret
      exact ⟨by rw [HF.out]; rfl, hG⟩
end Go.Proofs.YtabnpimidhlbiaaGreat

set_option linter.unusedSimpArgs false
set_option linter.unusedVariables false
namespace Go.Proofs.YtabnpimidhlbiaaGreat
open Go.RowKit Go.Shelf Go.Sort
attribute [local go_sem] Oper.semAt_some
def cmpI (a b : Int) : Int := if a < b then -1 else if b < a then 1 else 0
theorem nan_any (a : Int) (w : World) : Calls Tryz.prog 107 #[.int .i64 a] w fun e w' => e = .returned (.bool false) ∧ w' = w := by
  go_enter Tryz.func107, Tryz.ntmps107
  go_wp2
  go_ret
  exact ⟨by first | rfl | simp, rfl⟩
theorem cmp_any (a b : Int) (w : World) : Calls Tryz.prog 96 #[.int .i64 a, .int .i64 b] w fun e w' => e = .returned (.int .i64 (cmpI a b)) ∧ w' = w := by
  have HN := Lib.hid nan_any
  unfold cmpI
  by_cases h1 : a < b
  · rw [if_pos h1]
    go_enter Tryz.func96, Tryz.ntmps96
    go_wp2_with (go_at_call 107; refine (HN.out _ _).mono ?_; rintro e w1 ⟨rfl, rfl⟩)
    go_ret
    exact ⟨rfl, rfl⟩
  · rw [if_neg h1]
    by_cases h2 : b < a
    · rw [if_pos h2]
      go_enter Tryz.func96, Tryz.ntmps96
      go_wp2_with (go_at_call 107; refine (HN.out _ _).mono ?_; rintro e w1 ⟨rfl, rfl⟩)
      go_ret
      exact ⟨rfl, rfl⟩
    · rw [if_neg h2]
      go_enter Tryz.func96, Tryz.ntmps96
      go_wp2_with (go_at_call 107; refine (HN.out _ _).mono ?_; rintro e w1 ⟨rfl, rfl⟩)
      go_ret
      exact ⟨rfl, rfl⟩
/-- a number is in a list -/
def inL (l : List Int) (n : Int) : Bool := anyU (fun i => n == l.getD i 0) l.length
theorem index_any (l : List Int) (a : Option Addr) (cap : Nat) (n : Int) (w : World) (h : IntsAt w a l) (hl : l.length ≤ 1000) : Calls Tryz.prog 77 #[.slice a l.length cap, .int .i64 n] w fun e w' => ∃ r : Int, e = .returned (.int .i64 r) ∧ decide (0 ≤ r) = inL l n ∧ G w w' := by
  go_enter Tryz.func77, Tryz.ntmps77
  go_wp2_with fail
  go_loopw [8] (fun i wr => ∃ k : Nat, k ≤ l.length ∧ i = .int .i64 k ∧ Hid (∀ j, j < k → (n == l.getD j 0) = false) ∧ G w wr) (fun i _ => l.length - (intOf i).toNat)
  case atStart => exact ⟨0, Nat.zero_le _, rfl, fun j hj => by omega, G.rf _⟩
  case round =>
    obtain ⟨k, hk, rfl, hno, hG⟩ := hrel
    by_cases hlt : k < l.length
    · have hki : (k : Int) < l.length := by omega
      rcases h with rfl | ⟨g, off, rfl, hg, hcell⟩
      · simp at hlt
      have lg := Nat.lt_of_lt_of_le hg hG.size
      have q0 := ((bcellB hG).1 g _ hg).trans (hcell k hlt)
      obtain ⟨y, hy⟩ : ∃ y, y = l.getD k 0 := ⟨_, rfl⟩
      have HY := Lib.hid hy
      rw [← hy] at q0
      clear hy hcell
      cases hp : (n == y)
      · have HP := Lib.hid hp
        have hne : ¬ n = y := by simpa using hp
        go_wp2_with fail
        go_roundw
        case rel => exact ⟨k + 1, by omega, by go_num, fun j hj => by
          rcases Nat.lt_or_ge j k with h | h
          · exact hno.out j h
          · obtain rfl : j = k := by omega
            rw [← HY.out]; exact HP.out, hG⟩
        case measure => simp [intOf] <;> omega
      · have HP : Hid (inL l n = true) := anyU_yes hlt (by rw [← HY.out]; exact hp)
        have hne : n = y := by simpa using hp
        go_wp2_with fail
        go_ret
        exact ⟨k, rfl, by rw [HP.out]; simp, hG⟩
    · have hki : ¬ (k : Int) < l.length := by omega
      obtain rfl : k = l.length := by omega
      have HP : Hid (inL l n = false) := anyU_no hno.out
      go_wp2_with fail
      go_ret
      exact ⟨-1, rfl, by rw [HP.out]; rfl, hG⟩
theorem contains_any (l : List Int) (a : Option Addr) (cap : Nat) (n : Int) (w : World) (h : IntsAt w a l) (hl : l.length ≤ 1000) : Calls Tryz.prog 44 #[.slice a l.length cap, .int .i64 n] w fun e w' => e = .returned (.bool (inL l n)) ∧ G w w' := by
  have HI := Lib.hid (index_any l a cap n w h hl)
  clear h
  go_enter Tryz.func44, Tryz.ntmps44
  go_wp2_with (go_at_call 77; refine (HI.out).mono ?_; rintro e w1 ⟨r, rfl, hr, hG1⟩; have HR := Lib.hid hr; clear hr)
  go_ret
  exact ⟨by rw [← HR.out]; first | rfl | simp, hG1⟩
theorem wpAnyY_twoSW {P : Program} {ops : Array Oper} {md : Region.Mode} {Q : Exit → Act → World → Prop} {S : World → Prop} {z : Nat} {i j : Nat} {oi oj : Oper} {fuel : Nat} {l : Array Bool} {a : Act} {w : World} (hr : Region.ready md ops l = [i, j]) (hi : ops[i]? = some oi) (hj : ops[j]? = some oj)
    (hwi : Region.wanted oi (yielded ops a.tmps) = true) (hwj : Region.wanted oj (yielded ops a.tmps) = true)
    (h1 : ∀ K' : Act → World → Prop, Shut (∀ a w, S w → (S w → wpAnyY P md ops Q S z fuel (l.setIfInBounds i true) a w) → K' a w) → Oper.wp P oi a w K' Q)
    (h2 : ∀ K' : Act → World → Prop, Shut (∀ a w, S w → (S w → wpAnyY P md ops Q S z fuel (l.setIfInBounds j true) a w) → K' a w) → Oper.wp P oj a w K' Q) :
    wpAnyY P md ops Q S z (fuel + 1) l a w := by
  refine ⟨fun h0 => (by rw [hr] at h0; cases h0), fun k hk => ?_⟩
  rw [hr] at hk
  have hk2 : k = i ∨ k = j := by simpa using hk
  rcases hk2 with rfl | rfl
  · exact wpOp_step hi (fun K' hK => by rw [if_pos hwi]; exact h1 K' (fun a w hS hW => hK a w ⟨fun _ => hS, hW hS⟩))
  · exact wpOp_step hj (fun K' hK => by rw [if_pos hwj]; exact h2 K' (fun a w hS hW => hK a w ⟨fun _ => hS, hW hS⟩))
/-- draws and new blocks, nothing else -/
def Gx (W w' : World) : Prop := ∃ q os', w' = grow (W.drewN q) os'
theorem Gx.rf (W : World) : Gx W W := ⟨0, #[], by rw [grow_empty]; rfl⟩
theorem Gx.t {a b c : World} (h : Gx a b) (k : Gx b c) : Gx a c := by
  obtain ⟨q, os, rfl⟩ := h
  obtain ⟨q2, os2, rfl⟩ := k
  exact ⟨q + q2, os ++ os2, by show grow (grow ((a.drewN q).drewN q2) os) os2 = _; rw [grow_grow, World.drewN_drewN]⟩
theorem Gx.a {a b : World} (h : Gx a b) (o : Obj) : Gx a (b.alloc o) := h.t ⟨0, #[o], by rw [alloc_eq_grow]; rfl⟩
theorem Gx.d {a b : World} (h : Gx a b) : Gx a b.drew := h.t ⟨1, #[], by rw [grow_empty]; rfl⟩
theorem Gx.g {a b : World} (h : Gx a b) : G a b := by
  obtain ⟨q, os, rfl⟩ := h
  exact ⟨rfl, rfl, rfl, by simp, fun i hi => heap_grow_old _ _ (by simpa using hi)⟩
def orI (d r : Int) : Int := if d = 0 then r else d
set_option maxRecDepth 100000 in
set_option maxHeartbeats 4000000 in
theorem or_any (d r : Int) (g cap : Nat) (W : World) (c0 : W.cell? ⟨g, 0, none⟩ = some (.int .i64 d)) (c1 : W.cell? ⟨g, 1, none⟩ = some (.int .i64 r)) (hg : g < W.heap.size) : Calls Tryz.prog 95 #[.slice (some ⟨g, 0, none⟩) 2 cap] W fun e w' => e = .returned (.int .i64 (orI d r)) ∧ w' = W := by
  have HO : Hid (∀ x, x = orI d r → Calls Tryz.prog 95 #[.slice (some ⟨g, 0, none⟩) 2 cap] W (fun e w' => e = .returned (.int .i64 x) ∧ w' = W) → Calls Tryz.prog 95 #[.slice (some ⟨g, 0, none⟩) 2 cap] W fun e w' => e = .returned (.int .i64 (orI d r)) ∧ w' = W) := fun x hx h => by rw [← hx]; exact h
  by_cases hd : d = 0
  · refine HO.out r (by simp [orI, hd]) ?_
    subst hd
    by_cases hr : r = 0
    · subst hr
      clear HO
      go_enter Tryz.func95, Tryz.ntmps95
      go_wp2_with fail
      go_loopw [8] (fun i wr => ∃ k : Nat, k ≤ 2 ∧ i = .int .i64 k ∧ wr = W) (fun i _ => 2 - (intOf i).toNat)
      case atStart => exact ⟨0, by omega, rfl, rfl⟩
      case round =>
        obtain ⟨k, hk, rfl, rfl⟩ := hrel
        have h3 : k = 0 ∨ k = 1 ∨ k = 2 := by omega
        rcases h3 with rfl | rfl | rfl
        · go_wp2_with fail
          go_roundw
          case rel => exact ⟨1, by omega, by go_num, by first | rfl | trivial⟩
          case measure => simp [intOf] <;> omega
        · go_wp2_with fail
          go_roundw
          case rel => exact ⟨2, by omega, by go_num, by first | rfl | trivial⟩
          case measure => simp [intOf] <;> omega
        · go_wp2_with fail
          first | exact ⟨rfl, rfl⟩ | (go_ret; exact ⟨rfl, rfl⟩)
    · have e1 : (r == 0) = false := by simpa using hr
      clear HO
      go_enter Tryz.func95, Tryz.ntmps95
      go_wp2_with fail
      go_loopw [8] (fun i wr => ∃ k : Nat, k ≤ 1 ∧ i = .int .i64 k ∧ wr = W) (fun i _ => 2 - (intOf i).toNat)
      case atStart => exact ⟨0, by omega, rfl, rfl⟩
      case round =>
        obtain ⟨k, hk, rfl, rfl⟩ := hrel
        have h3 : k = 0 ∨ k = 1 := by omega
        rcases h3 with rfl | rfl
        · go_wp2_with fail
          go_roundw
          case rel => exact ⟨1, by omega, by go_num, by first | rfl | trivial⟩
          case measure => simp [intOf] <;> omega
        · go_wp2_with fail
          first | exact ⟨rfl, rfl⟩ | (go_ret; exact ⟨rfl, rfl⟩)
  · refine HO.out d (by simp [orI, hd]) ?_
    have e1 : (d == 0) = false := by simpa using hd
    clear HO
    go_enter Tryz.func95, Tryz.ntmps95
    go_wp2_with fail
    go_loopw [8] (fun i wr => i = .int .i64 0 ∧ wr = W) (fun i _ => 2 - (intOf i).toNat)
    case atStart => exact ⟨rfl, rfl⟩
    case round =>
      obtain ⟨rfl, rfl⟩ := hrel
      go_wp2_with fail
      first | exact ⟨rfl, rfl⟩ | (go_ret; exact ⟨rfl, rfl⟩)
/-- the code's order of acts: by minute, then by number -/
def actC (x y : Ac) : Int := orI (cmpI x.tm y.tm) (cmpI x.id y.id)
set_option maxRecDepth 100000 in
set_option maxHeartbeats 4000000 in
theorem closure94 (x y : Ac) (W : World) : Calls Tryz.prog 94 #[.agg x.v, .agg y.v] W fun e w' => e = .returned (.int .i64 (actC x y)) ∧ Gx W w' := by
  have HD := Lib.hid (fun W' => cmp_any x.tm y.tm W')
  have HR := Lib.hid (fun W' => cmp_any x.id y.id W')
  have HO := Lib.hid (fun (g cap : Nat) (W' : World) (c0 : W'.cell? ⟨g, 0, none⟩ = some (.int .i64 (cmpI x.tm y.tm))) (c1 : W'.cell? ⟨g, 1, none⟩ = some (.int .i64 (cmpI x.id y.id))) (hg : g < W'.heap.size) => or_any _ _ g cap W' c0 c1 hg)
  unfold actC
  generalize cmpI x.tm y.tm = DD at *
  generalize cmpI x.id y.id = RR at *
  generalize orI DD RR = OO at *
  obtain ⟨xid, xtm, xkd, xbk, xbd, xm1, xm2, xsl⟩ := x
  obtain ⟨yid, ytm, ykd, ybk, ybd, ym1, ym2, ysl⟩ := y
  unfold Ac.v
  dsimp only at *
  have gx0 : Gx W ((W.alloc (.cells #[.int .i64 xid, .int .i64 xtm, .int .i64 xkd, .int .i64 xbk, .int .i64 xbd, .int .i64 xm1, .int .i64 xm2, .int .i64 xsl] 54)).alloc (.cells #[.int .i64 yid, .int .i64 ytm, .int .i64 ykd, .int .i64 ybk, .int .i64 ybd, .int .i64 ym1, .int .i64 ym2, .int .i64 ysl] 54)) := ((Gx.rf _).a _).a _
  have bx : Blk ((W.alloc (.cells #[.int .i64 xid, .int .i64 xtm, .int .i64 xkd, .int .i64 xbk, .int .i64 xbd, .int .i64 xm1, .int .i64 xm2, .int .i64 xsl] 54)).alloc (.cells #[.int .i64 yid, .int .i64 ytm, .int .i64 ykd, .int .i64 ybk, .int .i64 ybd, .int .i64 ym1, .int .i64 ym2, .int .i64 ysl] 54)) W.heap.size 54 #[.int .i64 xid, .int .i64 xtm, .int .i64 xkd, .int .i64 xbk, .int .i64 xbd, .int .i64 xm1, .int .i64 xm2, .int .i64 xsl] := (Blk.new _ _ _).alloc _
  have by1 : Blk ((W.alloc (.cells #[.int .i64 xid, .int .i64 xtm, .int .i64 xkd, .int .i64 xbk, .int .i64 xbd, .int .i64 xm1, .int .i64 xm2, .int .i64 xsl] 54)).alloc (.cells #[.int .i64 yid, .int .i64 ytm, .int .i64 ykd, .int .i64 ybk, .int .i64 ybd, .int .i64 ym1, .int .i64 ym2, .int .i64 ysl] 54)) (W.heap.size + 1) 54 #[.int .i64 yid, .int .i64 ytm, .int .i64 ykd, .int .i64 ybk, .int .i64 ybd, .int .i64 ym1, .int .i64 ym2, .int .i64 ysl] := Blk.new1 _ _ _ _
  go_enter Tryz.func94, Tryz.ntmps94
  go_upto_region 1 with fail
  change Code.wp _ _ _ _ ((W.alloc (.cells #[.int .i64 xid, .int .i64 xtm, .int .i64 xkd, .int .i64 xbk, .int .i64 xbd, .int .i64 xm1, .int .i64 xm2, .int .i64 xsl] 54)).alloc (.cells #[.int .i64 yid, .int .i64 ytm, .int .i64 ykd, .int .i64 ybk, .int .i64 ybd, .int .i64 ym1, .int .i64 ym2, .int .i64 ysl] 54))
  obtain ⟨gy, hgy⟩ : ∃ gy, gy = W.heap.size + 1 := ⟨_, rfl⟩
  obtain ⟨gx, hgx⟩ : ∃ gx, gx = W.heap.size := ⟨_, rfl⟩
  rw [← hgy] at by1 ⊢
  rw [← hgx] at bx ⊢
  clear hgx hgy
  generalize ((W.alloc (.cells #[.int .i64 xid, .int .i64 xtm, .int .i64 xkd, .int .i64 xbk, .int .i64 xbd, .int .i64 xm1, .int .i64 xm2, .int .i64 xsl] 54)).alloc (.cells #[.int .i64 yid, .int .i64 ytm, .int .i64 ykd, .int .i64 ybk, .int .i64 ybd, .int .i64 ym1, .int .i64 ym2, .int .i64 ysl] 54)) = W1 at *
  have hSk : ∀ W', Gx W1 W' → (W'.cell? ⟨gx, 1, none⟩ = some (.int .i64 xtm) ∧ W'.cell? ⟨gx, 0, none⟩ = some (.int .i64 xid) ∧ gx < W'.heap.size) ∧ (W'.cell? ⟨gy, 1, none⟩ = some (.int .i64 ytm) ∧ W'.cell? ⟨gy, 0, none⟩ = some (.int .i64 yid) ∧ gy < W'.heap.size) := fun W' hW =>
    ⟨⟨(bx.keep hW.g).cell 1, (bx.keep hW.g).cell 0, (bx.keep hW.g).lt⟩, ⟨(by1.keep hW.g).cell 1, (by1.keep hW.g).cell 0, (by1.keep hW.g).lt⟩⟩
  have ga := (Gx.rf W1).d
  refine wp_region_Y (S := fun W' => (W'.cell? ⟨gx, 1, none⟩ = some (.int .i64 xtm) ∧ W'.cell? ⟨gx, 0, none⟩ = some (.int .i64 xid) ∧ gx < W'.heap.size) ∧ (W'.cell? ⟨gy, 1, none⟩ = some (.int .i64 ytm) ∧ W'.cell? ⟨gy, 0, none⟩ = some (.int .i64 yid) ∧ gy < W'.heap.size)) 12 13 rfl (by kernel_rfl) (hSk _ ga) (fun hS => ?_)
  refine wpAnyY_take (i := 0) (v := ?_) rfl (by kernel_rfl) (by kernel_rfl) (by kernel_rfl) (by kernel_rfl) (fun _ _ _ h => h) (Or.inl ⟨by kernel_rfl, ?_⟩) hS ?_
  rotate_left
  · intro w' hSw; go_simp; with_reducible rfl
  try simp only [Act.put, zzA, zzB, zzC, zzD, zzE, zzF]
  refine wpAnyY_take (i := 1) (v := ?_) rfl (by kernel_rfl) (by kernel_rfl) (by kernel_rfl) (by kernel_rfl) (fun _ _ _ h => h) (Or.inl ⟨by kernel_rfl, ?_⟩) hS ?_
  rotate_left
  · intro w' hSw; obtain ⟨⟨s0, s1, s2⟩, s3, s4, s5⟩ := hSw; go_simp; with_reducible rfl
  try simp only [Act.put, zzA, zzB, zzC, zzD, zzE, zzF]
  refine wpAnyY_take (i := 2) (v := ?_) rfl (by kernel_rfl) (by kernel_rfl) (by kernel_rfl) (by kernel_rfl) (fun _ _ _ h => h) (Or.inl ⟨by kernel_rfl, ?_⟩) hS ?_
  rotate_left
  · intro w' hSw; go_simp; with_reducible rfl
  try simp only [Act.put, zzA, zzB, zzC, zzD, zzE, zzF]
  refine wpAnyY_take (i := 3) (v := ?_) rfl (by kernel_rfl) (by kernel_rfl) (by kernel_rfl) (by kernel_rfl) (fun _ _ _ h => h) (Or.inl ⟨by kernel_rfl, ?_⟩) hS ?_
  rotate_left
  · intro w' hSw; obtain ⟨⟨s0, s1, s2⟩, s3, s4, s5⟩ := hSw; go_simp; with_reducible rfl
  try simp only [Act.put, zzA, zzB, zzC, zzD, zzE, zzF]
  refine wpAnyY_take (i := 5) (v := ?_) rfl (by kernel_rfl) (by kernel_rfl) (by kernel_rfl) (by kernel_rfl) (fun _ _ _ h => h) (Or.inl ⟨by kernel_rfl, ?_⟩) hS ?_
  rotate_left
  · intro w' hSw; go_simp; with_reducible rfl
  try simp only [Act.put, zzA, zzB, zzC, zzD, zzE, zzF]
  refine wpAnyY_take (i := 6) (v := ?_) rfl (by kernel_rfl) (by kernel_rfl) (by kernel_rfl) (by kernel_rfl) (fun _ _ _ h => h) (Or.inl ⟨by kernel_rfl, ?_⟩) hS ?_
  rotate_left
  · intro w' hSw; obtain ⟨⟨s0, s1, s2⟩, s3, s4, s5⟩ := hSw; go_simp; with_reducible rfl
  try simp only [Act.put, zzA, zzB, zzC, zzD, zzE, zzF]
  refine wpAnyY_take (i := 7) (v := ?_) rfl (by kernel_rfl) (by kernel_rfl) (by kernel_rfl) (by kernel_rfl) (fun _ _ _ h => h) (Or.inl ⟨by kernel_rfl, ?_⟩) hS ?_
  rotate_left
  · intro w' hSw; go_simp; with_reducible rfl
  try simp only [Act.put, zzA, zzB, zzC, zzD, zzE, zzF]
  refine wpAnyY_take (i := 8) (v := ?_) rfl (by kernel_rfl) (by kernel_rfl) (by kernel_rfl) (by kernel_rfl) (fun _ _ _ h => h) (Or.inl ⟨by kernel_rfl, ?_⟩) hS ?_
  rotate_left
  · intro w' hSw; obtain ⟨⟨s0, s1, s2⟩, s3, s4, s5⟩ := hSw; go_simp; with_reducible rfl
  try simp only [Act.put, zzA, zzB, zzC, zzD, zzE, zzF]
  refine wpAnyY_oneSW (i := 4) (by kernel_rfl) rfl (by kernel_rfl) (fun K4 hK4 => ?_)
  go_simp
  refine (HD.out _).mono ?_
  rintro e w' ⟨rfl, rfl⟩
  refine hK4.out _ _ (hSk _ ga) (fun hS => ?_)
  try simp only [Act.put, zzA, zzB, zzC, zzD, zzE, zzF]
  refine wpAnyY_oneSW (i := 9) (by kernel_rfl) rfl (by kernel_rfl) (fun K9 hK9 => ?_)
  go_simp
  refine (HR.out _).mono ?_
  rintro e w' ⟨rfl, rfl⟩
  refine hK9.out _ _ (hSk _ ga) (fun hS => ?_)
  try simp only [Act.put, zzA, zzB, zzC, zzD, zzE, zzF]
  refine wpAnyY_oneSW (i := 10) (by kernel_rfl) rfl (by kernel_rfl) (fun K10 hK10 => ?_)
  go_simp
  refine hK10.out _ _ (hSk _ (ga.a _)) (fun hS => ?_)
  try simp only [Act.put, zzA, zzB, zzC, zzD, zzE, zzF]
  have bz := Blk.new W1.drew 3 #[.int .i64 DD, .int .i64 RR]
  refine wpAnyY_oneSW (i := 11) (by kernel_rfl) rfl (by kernel_rfl) (fun K11 hK11 => ?_)
  go_simp
  refine (HO.out _ _ _ (bz.cell 0) (bz.cell 1) bz.lt).mono ?_
  rintro e w' ⟨rfl, rfl⟩
  refine hK11.out _ _ (hSk _ (ga.a _)) (fun hS => ?_)
  try simp only [Act.put, zzA, zzB, zzC, zzD, zzE, zzF]
  refine wpAnyY_oneW (i := 12) (by kernel_rfl) rfl (by kernel_rfl) (by kernel_rfl) (fun K12 hK12 => ?_)
  go_simp
  refine hK12.out _ _ ?_
  try simp only [Act.put, zzA, zzB, zzC, zzD, zzE, zzF]
  refine wpAnyY_done (by kernel_rfl) ?_ _
  go_wp2_with fail
  first | exact ⟨rfl, gx0.t (ga.a _)⟩ | (go_ret; exact ⟨rfl, gx0.t (ga.a _)⟩)
end Go.Proofs.YtabnpimidhlbiaaGreat

set_option linter.unusedSimpArgs false
set_option linter.unusedVariables false
namespace Go.Proofs.YtabnpimidhlbiaaGreat
open Go.RowKit Go.Shelf Go.Sort
attribute [local go_sem] Oper.semAt_some
def acE (x : Ac) : List Value := x.v.toList
def acV (l : List Ac) : List Value := l.flatMap acE
theorem acE_len (x : Ac) : (acE x).length = 8 := rfl
theorem acV_len (l : List Ac) : (acV l).length = l.length * 8 := by
  induction l with
  | nil => rfl
  | cons x l ih => simp only [acV, List.flatMap_cons, List.length_append, acE_len, List.length_cons] at *; omega
theorem acV_snoc (l : List Ac) (x : Ac) : acV (l ++ [x]) = acV l ++ acE x := by simp [acV]
theorem acV_get (l : List Ac) {i r : Nat} (hi : i < l.length) (hr : r < 8) : (acV l)[i * 8 + r]? = (acE (l.getD i default))[r]? := by
  induction l generalizing i with
  | nil => simp at hi
  | cons x l ih =>
    simp only [acV, List.flatMap_cons] at *
    cases i with
    | zero => rw [Nat.zero_mul, Nat.zero_add, List.getElem?_append_left (by rw [acE_len]; exact hr)]; rfl
    | succ i =>
      rw [List.getElem?_append_right (by rw [acE_len]; omega), acE_len, show (i + 1) * 8 + r - 8 = i * 8 + r by omega]
      rw [ih (by simpa using hi)]
      simp
theorem flat_ac (l : List Ac) : (flatK acE 8 l.toArray).toList = acV l := by
  apply List.ext_getElem?
  intro t
  by_cases ht : t < l.length * 8
  · have e := acV_get l (i := t / 8) (r := t % 8) (by omega) (by omega)
    rw [show t / 8 * 8 + t % 8 = t by omega] at e
    rw [e]
    have h2 := get_flatK acE 8 l.toArray t (by simpa using ht)
    have hs : t < (flatK acE 8 l.toArray).size := by simpa using ht
    rw [getElem!_pos (flatK acE 8 l.toArray) t hs] at h2
    have hq : t / 8 < l.length := by omega
    have h3 : (l.toArray)[t / 8]! = l.getD (t / 8) default := by
      rw [getElem!_pos l.toArray (t / 8) (by simpa using hq)]
      simp [List.getD_eq_getElem?_getD, hq]
    rw [h3] at h2
    have hr : t % 8 < (acE (l.getD (t / 8) default)).length := by rw [acE_len]; omega
    rw [getElem!_pos (acE (l.getD (t / 8) default)) (t % 8) hr] at h2
    rw [List.getElem?_eq_getElem (by simpa using hs), List.getElem?_eq_getElem hr, ← h2]
    simp
  · rw [List.getElem?_eq_none (by simp; omega), List.getElem?_eq_none (by rw [acV_len]; omega)]
theorem holds_ac {W : World} {g n : Nat} {cur : Array Value} {l : List Ac} (hb : W.heap[g]? = some (.cells cur 54 (0, 0))) (ht : cur.toList.take (l.length * 8) = acV l) : HoldsK acE 8 W g 0 l.toArray := by
  intro j hj
  have hj' : j < l.length * 8 := by simpa using hj
  refine ⟨?_, by simp [World.frozen?, hb]⟩
  have h1 : (cur.toList.take (l.length * 8))[j]? = ((flatK acE 8 l.toArray).toList)[j]? := by rw [ht, flat_ac]
  rw [List.getElem?_take_of_lt hj'] at h1
  simp only [World.cell?, hb, Nat.zero_add]
  simp only [Option.isSome_none, Bool.false_eq_true, if_false]
  rw [← Array.getElem?_toList, h1, Array.getElem?_toList]
  rw [getElem!_pos (flatK acE 8 l.toArray) j hj]
  simp only [id]
  exact Array.getElem?_eq_getElem hj
theorem heap_srt {w : World} {g n : Nat} {os : Array Obj} {cur : Array Value} {e : TypeId} {fr : Nat × Nat} (F : Array Value) (hb : w.heap[g]? = some (.cells cur e fr)) :
    (grow (putRow id (Sort.ahead w n) g 0 F) os).heap[g]? = some (.cells (putCells id 0 F cur) e fr) := by
  have hg : g < w.heap.size := (Array.getElem?_eq_some_iff.1 hb).1
  rw [heap_grow_old _ _ (by simpa using hg)]
  simp [putRow, mapBlock, Sort.ahead, Array.getElem?_modify, hb, onCells]
theorem grownBy_srt {w : World} {g n : Nat} {os : Array Obj} (F : Array Value) : w.grownBy (grow (putRow id (Sort.ahead w n) g 0 F) os) (some g) := by
  refine ⟨rfl, rfl, rfl, by simp, fun k hk hne => ?_⟩
  rw [heap_grow_old _ _ (by simpa using hk)]
  have : g ≠ k := fun e => hne (by rw [e])
  simp [putRow, mapBlock, Sort.ahead, Array.getElem?_modify, this]
theorem take_putFlat (cur F : Array Value) (h : F.size ≤ cur.size) : (putCells id 0 F cur).toList.take F.size = F.toList := by
  apply List.ext_getElem?
  intro j
  by_cases hj : j < F.size
  · rw [List.getElem?_take_of_lt hj, Array.getElem?_toList]
    simp [putCells, hj, show j < cur.size by omega]
  · rw [List.getElem?_take_eq_none (by omega), List.getElem?_eq_none (by simp; omega)]
/-- behind the sort the same slice owns what was sorted -/
theorem own_srt {w : World} {base g cap n : Nat} {os : Array Obj} {cur : Array Value} {l l' : List Ac} (hl : l'.length = l.length) (hbase : base ≤ g) (hb : w.heap[g]? = some (.cells cur 54 (0, 0)))
    (h1 : l.length ≤ cap) (h2 : cap ≤ maxLen) (h3 : cur.size = cap * 8) :
    (sortWorldK acE 8 w g 0 n l'.toArray os).ownsRow base 54 8 (.slice (some ⟨g, 0, none⟩) l.length cap) l.length (acV l') := by
  unfold sortWorldK putRowK
  have hF : (flatK acE 8 l'.toArray).size = l.length * 8 := by simp [hl]
  refine ⟨by rw [acV_len, hl], .inr ⟨g, cap, _, rfl, hbase, heap_srt _ hb, h1, h2, by simp [putCells, h3], ?_⟩⟩
  rw [← hF, take_putFlat _ _ (by rw [hF, h3]; omega), flat_ac]
def Tryz.sortAc_ren : Go.Shelf.Ren := ⟨fun | 6 => 105 | 15 => 110 | 14 => 109 | 28 => 119 | 29 => 120 | 20 => 111 | 21 => 112 | 22 => 113 | 23 => 114 | 24 => 115 | 25 => 116 | 26 => 117 | 27 => 118 | 46 => 121 | 47 => 122 | 48 => 123 | 49 => 124 | 50 => 125 | 57 => 126 | n => n, fun | 22 => 22 | 24 => 54 | 25 => 122 | 3 => 3 | 39 => 133 | 0 => 0 | 53 => 143 | 55 => 145 | 4 => 4 | 46 => 136 | 45 => 135 | 50 => 140 | 5 => 5 | 9 => 9 | 66 => 146 | 70 => 150 | 76 => 152 | 77 => 153 | n => n, fun | n => n⟩
theorem Tryz.sortAc : Go.Proofs.SlLaysF0.n6 Tryz.prog Tryz.sortAc_ren := {
  mixed := by kernel_rfl,
  f6 := ⟨Tryz.f105.name, by decide, Tryz.func105.trans (congrArg some (by kernel_rfl))⟩,
  f14 := ⟨Tryz.f109.name, by decide, Tryz.func109.trans (congrArg some (by kernel_rfl))⟩,
  f15 := Tryz.func110.trans (congrArg some (by kernel_rfl)),
  f20 := ⟨Tryz.f111.name, by decide, Tryz.func111.trans (congrArg some (by kernel_rfl))⟩,
  f21 := ⟨Tryz.f112.name, by decide, Tryz.func112.trans (congrArg some (by kernel_rfl))⟩,
  f22 := ⟨Tryz.f113.name, by decide, Tryz.func113.trans (congrArg some (by kernel_rfl))⟩,
  f23 := ⟨Tryz.f114.name, by decide, Tryz.func114.trans (congrArg some (by kernel_rfl))⟩,
  f24 := ⟨Tryz.f115.name, by decide, Tryz.func115.trans (congrArg some (by kernel_rfl))⟩,
  f25 := ⟨Tryz.f116.name, by decide, Tryz.func116.trans (congrArg some (by kernel_rfl))⟩,
  f26 := ⟨Tryz.f117.name, by decide, Tryz.func117.trans (congrArg some (by kernel_rfl))⟩,
  f27 := ⟨Tryz.f118.name, by decide, Tryz.func118.trans (congrArg some (by kernel_rfl))⟩,
  f28 := Tryz.func119.trans (congrArg some (by kernel_rfl)),
  f29 := Tryz.func120.trans (congrArg some (by kernel_rfl)),
  f46 := ⟨Tryz.f121.name, by decide, Tryz.func121.trans (congrArg some (by kernel_rfl))⟩,
  f47 := Tryz.func122.trans (congrArg some (by kernel_rfl)),
  f48 := Tryz.func123.trans (congrArg some (by kernel_rfl)),
  f49 := ⟨Tryz.f124.name, by decide, Tryz.func124.trans (congrArg some (by kernel_rfl))⟩,
  f50 := ⟨Tryz.f125.name, by decide, Tryz.func125.trans (congrArg some (by kernel_rfl))⟩,
  f57 := ⟨Tryz.f126.name, by decide, Tryz.func126.trans (congrArg some (by kernel_rfl))⟩,
  t0 := Tryz.underlying0,
  a0 := Tryz.isAgg0,
  z0 := Tryz.sizeOf0,
  v0 := Tryz.zeroValue0,
  t3 := Tryz.underlying3,
  a3 := Tryz.isAgg3,
  z3 := Tryz.sizeOf3,
  v3 := Tryz.zeroValue3,
  t4 := Tryz.underlying4,
  a4 := Tryz.isAgg4,
  z4 := Tryz.sizeOf4,
  v4 := Tryz.zeroValue4,
  t5 := Tryz.underlying5,
  a5 := Tryz.isAgg5,
  z5 := Tryz.sizeOf5,
  v5 := Tryz.zeroValue5,
  t9 := Tryz.underlying9,
  a9 := Tryz.isAgg9,
  z9 := Tryz.sizeOf9,
  v9 := Tryz.zeroValue9,
  t22 := Tryz.underlying22,
  a22 := Tryz.isAgg22,
  z22 := Tryz.sizeOf22,
  v22 := Tryz.zeroValue22,
  t25 := Tryz.underlying122,
  a25 := Tryz.isAgg122,
  z25 := Tryz.sizeOf122,
  v25 := Tryz.zeroValue122,
  t39 := Tryz.underlying133,
  a39 := Tryz.isAgg133,
  z39 := Tryz.sizeOf133,
  v39 := Tryz.zeroValue133,
  t45 := Tryz.underlying135,
  a45 := Tryz.isAgg135,
  z45 := Tryz.sizeOf135,
  v45 := Tryz.zeroValue135,
  t46 := Tryz.underlying136,
  a46 := Tryz.isAgg136,
  z46 := Tryz.sizeOf136,
  v46 := Tryz.zeroValue136,
  t50 := Tryz.underlying140,
  a50 := Tryz.isAgg140,
  z50 := Tryz.sizeOf140,
  v50 := Tryz.zeroValue140,
  t53 := Tryz.underlying143,
  a53 := Tryz.isAgg143,
  z53 := Tryz.sizeOf143,
  v53 := Tryz.zeroValue143,
  t55 := Tryz.underlying145,
  a55 := Tryz.isAgg145,
  z55 := Tryz.sizeOf145,
  v55 := Tryz.zeroValue145,
  t66 := Tryz.underlying146,
  a66 := Tryz.isAgg146,
  z66 := Tryz.sizeOf146,
  v66 := Tryz.zeroValue146,
  t70 := Tryz.underlying150,
  a70 := Tryz.isAgg150,
  z70 := Tryz.sizeOf150,
  v70 := Tryz.zeroValue150,
  t76 := Tryz.underlying152,
  a76 := Tryz.isAgg152,
  z76 := Tryz.sizeOf152,
  v76 := Tryz.zeroValue152,
  t77 := Tryz.underlying153,
  a77 := Tryz.isAgg153,
  z77 := Tryz.sizeOf153,
  v77 := Tryz.zeroValue153 }

/-- sorted by minute and number -/
def msA (l : List Ac) : List Ac := l.mergeSort leAB
theorem msA_len (l : List Ac) : (msA l).length = l.length := by simp [msA]
theorem msA_perm (l : List Ac) : (msA l).Perm l := List.mergeSort_perm _ _
theorem msA_pw (l : List Ac) : (msA l).Pairwise leA := by
  have := List.pairwise_mergeSort (le := leAB) (fun a b c h1 h2 => by unfold leAB at *; simp only [decide_eq_true_eq] at *; exact leA_trans h1 h2) (fun a b => by unfold leAB; simp only [Bool.or_eq_true, decide_eq_true_eq]; exact leA_total a b) l
  exact this.imp fun {a b} hh => by unfold leAB at hh; simpa using hh
theorem msA_unique {l l' : List Ac} (h : OneId l) (hp : l'.Perm l) (hs : l'.Pairwise leA) : l' = msA l :=
  List.Perm.eq_of_pairwise (le := leA) (fun a b ha hb h1 h2 => h a (hp.mem_iff.1 ha) b ((msA_perm l).mem_iff.1 hb) (by unfold leA at h1 h2; omega)) hs (msA_pw l) (hp.trans (msA_perm l).symm)
theorem ltAct (x y : Ac) : decide (actC x y < 0) = decide (ltA x y) := by
  have e : (actC x y < 0) ↔ ltA x y := by
    unfold actC orI cmpI ltA
    by_cases h1 : x.tm < y.tm
    · simp [h1]
    · by_cases h2 : y.tm < x.tm
      · simp [h1, h2]; omega
      · have h3 : x.tm = y.tm := by omega
        by_cases h4 : x.id < y.id
        · simp [h3, h4]
        · by_cases h5 : y.id < x.id <;> simp [h3, h4, h5]
  exact decide_eq_decide.2 e
theorem perm_toList {α : Type} [Inhabited α] {d d' : Array α} (h : PermIn 0 d.size d d') : d'.toList.Perm d.toList := by
  obtain ⟨h1, _, h3⟩ := h
  have e1 : d'.extract 0 d.size = d' := by rw [← h1]; exact Array.extract_size
  rw [e1, Array.extract_size] at h3
  exact h3
theorem swoAct : SWO (ltOf actC) where
  irrefl x := by rw [show ltOf actC x x = _ from ltAct x x]; simp [ltA_irrefl]
  trans x y z h1 h2 := by rw [show ltOf actC x y = _ from ltAct x y] at h1; rw [show ltOf actC y z = _ from ltAct y z] at h2; rw [show ltOf actC x z = _ from ltAct x z]; simp only [decide_eq_true_eq] at *; exact ltA_trans h1 h2
  ntrans x y z h1 h2 := by rw [show ltOf actC x y = _ from ltAct x y] at h1; rw [show ltOf actC y z = _ from ltAct y z] at h2; rw [show ltOf actC x z = _ from ltAct x z]; simp only [decide_eq_false_iff_not] at *; unfold ltA at *; omega
theorem msA_of {l : List Ac} (hu : OneId l) {d' : Array Ac} (hp : PermIn 0 l.toArray.size l.toArray d') (hs : SortedIn (ltOf actC) 0 l.toArray.size d') : d' = (msA l).toArray := by
  have e : d'.toList = msA l := msA_unique hu (by simpa using perm_toList hp) (by
    rw [List.pairwise_iff_getElem]
    intro i j hi hj hij
    have hsz : d'.size = l.toArray.size := hp.1
    have hi' : i < d'.size := by simpa using hi
    have hj' : j < d'.size := by simpa using hj
    have := hs i j (Nat.zero_le _) hij (by omega)
    rw [show ltOf actC d'[j]! d'[i]! = _ from ltAct _ _] at this
    rw [getElem!_pos d' j hj', getElem!_pos d' i hi'] at this
    simp only [decide_eq_false_iff_not] at this
    show leA d'[i] d'[j]
    unfold ltA at this; unfold leA; omega)
  rw [← e]
/-- slices.SortFunc by minute and number, at a row of one's own -/
theorem sort_own (l : List Ac) (hu : OneId l) (hl : l.length ≤ 1000) (W : World) (B : Nat) (v : Value) (h : W.ownsRow B 54 8 v l.length (acV l)) : Calls Tryz.prog 105 #[v, .func (.func 94) #[] #[]] W fun e w' => e = .returned (.tuple #[]) ∧ w'.ownsRow B 54 8 v l.length (acV (msA l)) ∧ W.grownBy w' v.ownBlock := by
  rcases h.2 with ⟨rfl, h0⟩ | ⟨g, cap, cur, rfl, hb, hg, h1, h2, h3, h4⟩
  · have hl0 : l = [] := List.length_eq_zero_iff.1 h0
    subst hl0
    have hc := AnyF.slices_SortFunc_none Tryz.sortAc none 0 (.func (.func 94) #[] #[]) W
    change Calls Tryz.prog 105 _ _ _ at hc
    refine hc.mono ?_
    rintro e w' ⟨rfl, rfl⟩
    exact ⟨rfl, by rw [show msA [] = [] by simp [msA]]; exact h, World.grownBy.refl _ _⟩
  · have hlt : g < W.heap.size := (Array.getElem?_eq_some_iff.1 hg).1
    have hc := AnyQ.slices_SortFunc Tryz.sortAc 8 Tryz.isAgg54 Tryz.sizeOf54 acE acE_len (fun x v hv => by
      simp [acE, Ac.v] at hv
      rcases hv with rfl | rfl | rfl | rfl | rfl | rfl | rfl | rfl <;> rfl) actC swoAct 94 #[] g 0 cap l.toArray W (enters_of Tryz.func94 (by kernel_rfl) rfl) (fun m os dk _ x y => closure94 x y _) (holds_ac (n := 0) hg h4) hlt (by simp; omega)
    change Calls Tryz.prog 105 _ _ _ at hc
    rw [show l.toArray.size = l.length by simp] at hc
    refine hc.mono ?_
    rintro e w' ⟨rfl, d', n, os, hp, hs, rfl⟩
    have hd := msA_of hu (by simpa using hp) (by simpa using hs)
    subst hd
    exact ⟨rfl, own_srt (msA_len l) hb hg h1 h2 h3, grownBy_srt _⟩
end Go.Proofs.YtabnpimidhlbiaaGreat

set_option linter.unusedSimpArgs false
set_option linter.unusedVariables false
namespace Go.Proofs.YtabnpimidhlbiaaGreat
/-- what becomes of a period by the acts that follow -/
def scan : Pe → List Ac → Pe
  | p, [] => p
  | p, a :: l => if a.bk ≠ p.bk then scan p l else if a.kd = 5 then (lookP p a).1 else scan (lookP p a).1 l
def newP (E : Int) (a : Ac) : Pe := ⟨a.bk, a.sl, a.tm, a.tm, E, false⟩
/-- the periods of acts that are all in their place -/
def peds (E : Int) : List Ac → List Pe
  | [] => []
  | a :: l => if a.kd = 3 then scan (newP E a) l :: peds E l else peds E l
structure JOk (j : Jn) : Prop where
  som : ∀ b i, j.sd b = some i → i < j.ps.length ∧ (j.ps.getD i default).bk = b
theorem JOk.zero : JOk Jn.zero := ⟨fun b i h => absurd h (by simp [Jn.zero])⟩
def updP (j : Jn) (l : List Ac) : List Pe := (List.range j.ps.length).map fun i => if j.sd (j.ps.getD i default).bk = some i then scan (j.ps.getD i default) l else j.ps.getD i default
theorem updP_nil (j : Jn) : updP j [] = j.ps := by
  unfold updP
  refine List.ext_getElem (by simp) fun i h1 h2 => ?_
  simp only [List.getElem_map, List.getElem_range, scan, ite_self]
  simp [List.getD, h2]
/-- an act that is in its place, by its kind -/
theorem hap_cases {E : Int} {j : Jn} {a : Ac} (h : (hap E j a).2 = true) : ((a.kd = 1 ∨ a.kd = 2) ∧ j.sd a.bk = none ∧ (hap E j a).1 = j) ∨ (a.kd = 3 ∧ j.sd a.bk = none ∧ (hap E j a).1 = ⟨j.past, j.ps ++ [newP E a], fun b => if b = a.bk then some j.ps.length else j.sd b⟩) ∨ ((a.kd ≠ 1 ∧ a.kd ≠ 2 ∧ a.kd ≠ 3) ∧ ∃ m, j.sd a.bk = some m ∧ (hap E j a).1 = ⟨j.past, j.ps.set m (lookP (j.ps.getD m default) a).1, if a.kd = 5 then fun b => if b = a.bk then none else j.sd b else j.sd⟩) := by
  by_cases h1 : a.kd = 1
  · have e : hap E j a = (j, (j.sd a.bk).isNone && decide (whr j.past a.tm a.bd < 0)) := by unfold hap; rw [if_pos h1]
    rw [e] at h ⊢
    simp only [Bool.and_eq_true, Option.isNone_iff_eq_none] at h
    exact .inl ⟨.inl h1, h.1, rfl⟩
  by_cases h2 : a.kd = 2
  · have e : hap E j a = (j, (j.sd a.bk).isNone && decide (whr j.past a.tm a.bd = a.bk)) := by unfold hap; rw [if_neg h1, if_pos h2]
    rw [e] at h ⊢
    simp only [Bool.and_eq_true, Option.isNone_iff_eq_none] at h
    exact .inl ⟨.inr h2, h.1, rfl⟩
  by_cases h3 : a.kd = 3
  · cases hd : j.sd a.bk with
    | none =>
        refine .inr (.inl ⟨h3, rfl, ?_⟩)
        unfold hap; rw [if_neg h1, if_neg h2, if_pos h3, hd]; rfl
    | some m =>
        unfold hap at h; rw [if_neg h1, if_neg h2, if_pos h3, hd] at h; simp at h
  · cases hd : j.sd a.bk with
    | none => unfold hap at h; rw [if_neg h1, if_neg h2, if_neg h3, hd] at h; simp at h
    | some m =>
        refine .inr (.inr ⟨⟨h1, h2, h3⟩, m, rfl, ?_⟩)
        unfold hap; rw [if_neg h1, if_neg h2, if_neg h3, hd]
theorem JOk.hap {E : Int} {j : Jn} (hj : JOk j) {a : Ac} (h : (hap E j a).2 = true) : JOk { (Go.Proofs.YtabnpimidhlbiaaGreat.hap E j a).1 with past := (Go.Proofs.YtabnpimidhlbiaaGreat.hap E j a).1.past ++ [a] } := by
  rcases hap_cases h with ⟨_, hn, e⟩ | ⟨_, hn, e⟩ | ⟨_, m, hm, e⟩
  · rw [e]; exact ⟨hj.som⟩
  · rw [e]
    refine ⟨fun b i hi => ?_⟩
    by_cases eb : b = a.bk
    · have ei : i = j.ps.length := by simp [eb] at hi; exact hi.symm
      refine ⟨by rw [ei]; simp, ?_⟩
      show ((j.ps ++ [newP E a]).getD i default).bk = b
      rw [ei, getD_snoc_self, eb]; rfl
    · have hi' : j.sd b = some i := by simpa [eb] using hi
      obtain ⟨q1, q2⟩ := hj.som b i hi'
      refine ⟨by simp; omega, ?_⟩
      show ((j.ps ++ [newP E a]).getD i default).bk = b
      rw [getD_snoc_lt _ _ q1]; exact q2
  · rw [e]
    refine ⟨fun b i hi => ?_⟩
    have hi' : j.sd b = some i := by
      have hi2 : (if a.kd = 5 then fun b => if b = a.bk then none else j.sd b else j.sd) b = some i := hi
      by_cases h5 : a.kd = 5
      · rw [if_pos h5] at hi2
        by_cases eb : b = a.bk
        · simp [eb] at hi2
        · simpa [eb] using hi2
      · rw [if_neg h5] at hi2; exact hi2
    obtain ⟨q1, q2⟩ := hj.som b i hi'
    refine ⟨by simpa using q1, ?_⟩
    show ((j.ps.set m (lookP (j.ps.getD m default) a).1).getD i default).bk = b
    by_cases em : m = i
    · rw [em, getD_set_self _ _ _ q1, (lookP_bk _ _).1]; exact q2
    · rw [getD_set_ne _ _ _ _ em]; exact q2
theorem run_peds (E : Int) : ∀ (l : List Ac) (j k : Jn), JOk j → run E j l = some k → k.ps = updP j l ++ peds E l
  | [], j, k, hj, h => by
      simp only [run, Option.some.injEq] at h
      rw [← h, updP_nil]; simp [peds]
  | a :: l, j, k, hj, h => by
      unfold run at h
      by_cases hh : (hap E j a).2 = true
      case neg => rw [if_neg hh] at h; exact absurd h (by simp)
      rw [if_pos hh] at h
      rw [run_peds E l _ k (hj.hap hh) h]
      have opn : ∀ i, j.sd (j.ps.getD i default).bk = some i → j.sd a.bk ≠ some i → scan (j.ps.getD i default) (a :: l) = scan (j.ps.getD i default) l := fun i hi hn => by
        have : a.bk ≠ (j.ps.getD i default).bk := fun e => hn (by rw [e]; exact hi)
        show (if _ then _ else _) = _
        rw [if_pos this]
      rcases hap_cases hh with ⟨hk, hn, e⟩ | ⟨hk, hn, e⟩ | ⟨hk, m, hm, e⟩
      · rw [e]
        have e2 : peds E (a :: l) = peds E l := by unfold peds; rw [if_neg (by omega)]; cases l <;> rfl
        rw [e2]
        congr 1
        refine List.map_congr_left fun i hi => ?_
        by_cases c : j.sd (j.ps.getD i default).bk = some i
        · rw [if_pos c, if_pos c, opn i c (by rw [hn]; simp)]
        · rw [if_neg c, if_neg c]
      · rw [e]
        have e2 : peds E (a :: l) = scan (newP E a) l :: peds E l := by conv => lhs; unfold peds; rw [if_pos hk]
        rw [e2]
        have e3 : ∀ (q : List Ac), updP ⟨q, j.ps ++ [newP E a], fun b => if b = a.bk then some j.ps.length else j.sd b⟩ l = updP j (a :: l) ++ [scan (newP E a) l] := by
          intro q
          unfold updP
          rw [show ((⟨q, j.ps ++ [newP E a], fun b => if b = a.bk then some j.ps.length else j.sd b⟩ : Jn).ps.length) = j.ps.length + 1 by simp, List.range_succ, List.map_append]
          congr 1
          · refine List.map_congr_left fun i hi => ?_
            have hi' := List.mem_range.1 hi
            show (if (if ((j.ps ++ [newP E a]).getD i default).bk = a.bk then some j.ps.length else j.sd ((j.ps ++ [newP E a]).getD i default).bk) = some i then scan ((j.ps ++ [newP E a]).getD i default) l else (j.ps ++ [newP E a]).getD i default) = _
            rw [getD_snoc_lt _ _ hi']
            by_cases eb : (j.ps.getD i default).bk = a.bk
            · rw [if_pos eb, if_neg (by simp; omega), if_neg (by rw [eb, hn]; simp)]
            · rw [if_neg eb]
              by_cases c : j.sd (j.ps.getD i default).bk = some i
              · rw [if_pos c, if_pos c, opn i c (by rw [hn]; simp)]
              · rw [if_neg c, if_neg c]
          · show [if (if ((j.ps ++ [newP E a]).getD j.ps.length default).bk = a.bk then some j.ps.length else j.sd ((j.ps ++ [newP E a]).getD j.ps.length default).bk) = some j.ps.length then scan ((j.ps ++ [newP E a]).getD j.ps.length default) l else (j.ps ++ [newP E a]).getD j.ps.length default] = _
            rw [getD_snoc_self, if_pos (show (newP E a).bk = a.bk from rfl), if_pos rfl]
        rw [e3, List.append_assoc]; rfl
      · rw [e]
        obtain ⟨q1, q2⟩ := hj.som _ m hm
        have e2 : peds E (a :: l) = peds E l := by conv => lhs; unfold peds; rw [if_neg hk.2.2]
        rw [e2]
        congr 1
        unfold updP
        show (List.range (j.ps.set m _).length).map _ = _
        rw [List.length_set]
        refine List.map_congr_left fun i hi => ?_
        show (if (if a.kd = 5 then fun b => if b = a.bk then none else j.sd b else j.sd) ((j.ps.set m (lookP (j.ps.getD m default) a).1).getD i default).bk = some i then scan ((j.ps.set m (lookP (j.ps.getD m default) a).1).getD i default) l else (j.ps.set m (lookP (j.ps.getD m default) a).1).getD i default) = _
        by_cases em : m = i
        · subst em
          rw [getD_set_self _ _ _ q1, (lookP_bk _ _).1, q2, if_pos hm]
          have e4 : scan (j.ps.getD m default) (a :: l) = if a.kd = 5 then (lookP (j.ps.getD m default) a).1 else scan (lookP (j.ps.getD m default) a).1 l := by
            show (if _ then _ else _) = _
            rw [if_neg (by rw [q2]; simp)]
          rw [e4]
          by_cases h5 : a.kd = 5
          · rw [if_pos h5, if_pos h5]; simp
          · rw [if_neg h5, if_neg h5, if_pos hm]
        · rw [getD_set_ne _ _ _ _ em]
          by_cases c : j.sd (j.ps.getD i default).bk = some i
          · have hne : (j.ps.getD i default).bk ≠ a.bk := fun eb => by rw [eb, hm] at c; exact em (Option.some.inj c)
            rw [if_pos c, opn i c (by rw [hm]; simpa using em)]
            by_cases h5 : a.kd = 5
            · rw [if_pos h5]
              show (if (if (j.ps.getD i default).bk = a.bk then none else j.sd (j.ps.getD i default).bk) = some i then _ else _) = _
              rw [if_neg hne, if_pos c]
            · rw [if_neg h5, if_pos c]
          · rw [if_neg c]
            by_cases h5 : a.kd = 5
            · rw [if_pos h5]
              show (if (if (j.ps.getD i default).bk = a.bk then none else j.sd (j.ps.getD i default).bk) = some i then _ else _) = _
              by_cases hne : (j.ps.getD i default).bk = a.bk
              · rw [if_pos hne, if_neg (by simp)]
              · rw [if_neg hne, if_neg c]
            · rw [if_neg h5, if_neg c]
/-- the periods of a journey -/
theorem run_ps {E : Int} {l : List Ac} {k : Jn} (h : run E Jn.zero l = some k) : k.ps = peds E l := by
  rw [run_peds E l _ k JOk.zero h]; simp [updP, Jn.zero]
end Go.Proofs.YtabnpimidhlbiaaGreat

set_option linter.unusedSimpArgs false
set_option linter.unusedVariables false
namespace Go.Proofs.YtabnpimidhlbiaaGreat
theorem lookP_en (p : Pe) (a : Ac) : (lookP p a).1.en = if a.sl ≠ p.sl ∧ p.br = false then a.tm else if a.kd = 5 then min p.en a.tm else p.en := by
  unfold lookP
  by_cases h5 : a.kd = 5 <;> by_cases h1 : a.sl = p.sl <;> cases hb : p.br <;> simp [h5, h1, hb]
end Go.Proofs.YtabnpimidhlbiaaGreat

set_option linter.unusedSimpArgs false
set_option linter.unusedVariables false
namespace Go.Proofs.YtabnpimidhlbiaaGreat
open Go.RowKit Go.Shelf
attribute [local go_sem] Oper.semAt_some
def Pe.v (p : Pe) : Array Value := #[.int .i64 p.bk, .int .i64 p.sl, .int .i64 p.fr, .int .i64 p.wh, .int .i64 p.en, .bool p.br]
/-- the periods as they lie: a row of pointers, and what they point at -/
structure PsAt (W : World) (qa : Option Addr) (ps : List Pe) (P : Nat → Nat) : Prop where
  row : ps.length = 0 ∨ ∃ g off, qa = some ⟨g, off, none⟩ ∧ g < W.heap.size ∧ ∀ i, i < ps.length → W.cell? ⟨g, off + i, none⟩ = some (.pointer (some ⟨P i, 0, none⟩))
  blk : ∀ i, i < ps.length → Blk W (P i) 100 (ps.getD i default).v
theorem PsAt.keep {W W' : World} {qa : Option Addr} {ps : List Pe} {P : Nat → Nat} (h : PsAt W qa ps P) (hG : G W W') : PsAt W' qa ps P := by
  refine ⟨?_, fun i hi => (h.blk i hi).keep hG⟩
  rcases h.row with h | ⟨g, off, h1, h2, h3⟩
  · exact .inl h
  · exact .inr ⟨g, off, h1, Nat.lt_of_lt_of_le h2 hG.size, fun i hi => ((bcellB hG).1 g _ h2).trans (h3 i hi)⟩
/-- how many periods have a seal -/
def dblN (ps : List Pe) (s : Int) (k : Nat) : Nat := ((ps.take k).filter fun p => p.sl == s).length
def dblB (ps : List Pe) (s : Int) : Bool := decide (1 < dblN ps s ps.length)
theorem dblN_succ (ps : List Pe) (s : Int) {k : Nat} (h : k < ps.length) : dblN ps s (k + 1) = dblN ps s k + (if (ps.getD k default).sl = s then 1 else 0) := by
  unfold dblN
  have e : ps.getD k default = ps[k] := by simp [List.getD, h]
  rw [List.take_add_one, List.getElem?_eq_getElem h, Option.toList_some, List.filter_append, List.length_append, e]
  by_cases hs : ps[k].sl = s <;> simp [hs]
theorem dblN_le (ps : List Pe) (s : Int) (k : Nat) : dblN ps s k ≤ ps.length := Nat.le_trans (List.length_filter_le _ _) (by rw [List.length_take]; omega)
set_option maxRecDepth 100000 in
set_option maxHeartbeats 8000000 in
theorem doubled_any (ps : List Pe) (qa : Option Addr) (qc J : Nat) (P : Nat → Nat) (s : Int) (w : World) (hJ : w.cell? ⟨J, 6, none⟩ = some (.slice qa ps.length qc)) (lJ : J < w.heap.size) (hp : PsAt w qa ps P) (hn : ps.length ≤ 1000) :
    Calls Tryz.prog 82 #[.pointer (some ⟨J, 0, none⟩), .int .i64 s] w fun e w' => e = .returned (.bool (dblB ps s)) ∧ G w w' := by
  have HS := Lib.hid (fun k hk => dblN_succ ps s (k := k) hk)
  have HZ : Hid (dblN ps s 0 = 0) := by simp [Hid, dblN]
  have HL := Lib.hid (fun k => dblN_le ps s k)
  have HR : Hid (dblB ps s = decide (1 < dblN ps s ps.length)) := rfl
  generalize dblB ps s = R at *
  obtain ⟨V, hV⟩ : ∃ V : Nat → Nat, V = dblN ps s := ⟨_, rfl⟩
  rw [← hV] at HS HZ HL HR
  clear hV
  have HB := Lib.hid hp.blk
  have hrow := hp.row
  clear hp
  go_enter Tryz.func82, Tryz.ntmps82
  go_wp2_with fail
  go_loopw [5, 13] (fun c i wr => ∃ k : Nat, k ≤ ps.length ∧ c = .int .i64 (V k : Nat) ∧ i = .int .i64 k ∧ G w wr) (fun _ i _ => ps.length - (intOf i).toNat)
  case atStart => exact ⟨0, Nat.zero_le _, by rw [HZ.out]; rfl, rfl, G.rf _⟩
  case round =>
    obtain ⟨k, hk, rfl, rfl, hG⟩ := hrel
    by_cases hlt : k < ps.length
    · have hki : (k : Int) < ps.length := by omega
      rcases hrow with h | ⟨g, off, rfl, hg, hcell⟩
      · omega
      have lg := Nat.lt_of_lt_of_le hg hG.size
      have q0 := ((bcellB hG).1 g _ hg).trans (hcell k hlt)
      have HS2 := Lib.hid (HS.out k hlt)
      have b0 := (HB.out k hlt).keep hG
      have hvl := HL.out k
      clear HS HB
      obtain ⟨y, hy⟩ : ∃ y, y = ps.getD k default := ⟨_, rfl⟩
      rw [← hy] at b0 HS2
      clear hy
      generalize P k = PK at *
      obtain ⟨xbk, xsl, xfr, xwh, xen, xbr⟩ := y
      unfold Pe.v at b0
      have m1 := b0.cell 1
      have l1 := b0.lt
      dsimp only at HS2
      have x1 : IntKind.i64.wrap ((V k : Int) + 1) = (V k : Int) + 1 := IntWalk.i64_in _ (by omega)
      obtain ⟨VN, hVN⟩ : ∃ VN, VN = V (k + 1) := ⟨_, rfl⟩
      rw [← hVN] at HS2
      have HV : Hid (V (k + 1) = VN) := hVN.symm
      clear hVN hcell
      generalize V k = VK at *
      by_cases c1 : xsl = s
      · subst c1
        obtain rfl : VN = VK + 1 := by rw [HS2.out, if_pos rfl]
        clear HS2
        go_wp2_with fail
        go_roundw
        case rel => exact ⟨k + 1, by omega, by rw [HV.out]; go_num, by go_num, hG⟩
        case measure => simp [intOf] <;> omega
      · have k1 : (xsl == s) = false := by simpa using c1
        obtain rfl : VN = VK := by rw [HS2.out, if_neg c1]; rfl
        clear HS2
        go_wp2_with fail
        go_roundw
        case rel => exact ⟨k + 1, by omega, by rw [HV.out], by go_num, hG⟩
        case measure => simp [intOf] <;> omega
    · obtain rfl : k = ps.length := by omega
      have hki : ¬ ((ps.length : Nat) : Int) < ps.length := by omega
      have HR2 : Hid (R = decide ((1 : Int) < (V ps.length : Nat))) := by
        show _ = _
        rw [HR.out]
        exact decide_eq_decide.2 (by omega)
      clear HR
      go_wp2_with fail
      go_ret
      exact ⟨by rw [HR2.out]; rfl, hG⟩
end Go.Proofs.YtabnpimidhlbiaaGreat

set_option linter.unusedSimpArgs false
set_option linter.unusedVariables false
namespace Go.Proofs.YtabnpimidhlbiaaGreat
open Go.RowKit Go.Shelf
attribute [local go_sem] Oper.semAt_some
def openL (ps : List Pe) (p : Pe) : Int := if dblB ps p.sl then p.fr else p.wh
set_option maxRecDepth 100000 in
set_option maxHeartbeats 8000000 in
theorem openings_any (ps : List Pe) (qa : Option Addr) (qc J : Nat) (P : Nat → Nat) (p : Pe) (PK : Nat) (w : World) (hJ : w.cell? ⟨J, 6, none⟩ = some (.slice qa ps.length qc)) (lJ : J < w.heap.size) (hp : PsAt w qa ps P) (hn : ps.length ≤ 1000) (hP : Blk w PK 100 p.v) (he : IntKind.i64.wrap (p.en - 1) = p.en - 1) :
    Calls Tryz.prog 57 #[.pointer (some ⟨J, 0, none⟩), .pointer (some ⟨PK, 0, none⟩)] w fun e w' => e = .returned (.agg #[.int .i64 (openL ps p), .int .i64 (p.en - 1)]) ∧ G w w' := by
  have HD := Lib.hid (fun (W : World) (hW : G w W) => doubled_any ps qa qc J P p.sl W (((bcellB hW).1 J _ lJ).trans hJ) (Nat.lt_of_lt_of_le lJ hW.size) (hp.keep hW) hn)
  clear hp hJ
  unfold openL
  obtain ⟨xbk, xsl, xfr, xwh, xen, xbr⟩ := p
  unfold Pe.v at hP
  dsimp only at *
  generalize dblB ps xsl = D at *
  have g1 : G w (w.alloc (.cells #[.int .i64 0, .int .i64 0] 61)) := (G.rf _).a _
  have bR : Blk (w.alloc (.cells #[.int .i64 0, .int .i64 0] 61)) w.heap.size 61 #[.int .i64 0, .int .i64 0] := Blk.new _ _ _
  have bP := hP.keep g1
  have lP := hP.lt
  go_enter Tryz.func57, Tryz.ntmps57
  go_upto_region 1 with fail
  change Code.wp _ _ _ _ (w.alloc (.cells #[.int .i64 0, .int .i64 0] 61))
  obtain ⟨R, hR⟩ : ∃ R, R = w.heap.size := ⟨_, rfl⟩
  rw [← hR] at bR ⊢
  have hPR : PK < R := by rw [hR]; exact lP
  have hwR : w.heap.size ≤ R := by omega
  clear hR hP
  generalize w.alloc (.cells #[.int .i64 0, .int .i64 0] 61) = W1 at *
  refine wp_region_Y (S := fun W' => Blk W' PK 100 #[.int .i64 xbk, .int .i64 xsl, .int .i64 xfr, .int .i64 xwh, .int .i64 xen, .bool xbr]) 11 12 rfl (by kernel_rfl) (bP.drewN 1) (fun hS => ?_)
  have gD : G w W1.drew := g1.d
  have bRD : Blk W1.drew R 61 #[.int .i64 0, .int .i64 0] := bR.drewN 1
  have bPD : Blk W1.drew PK 100 #[.int .i64 xbk, .int .i64 xsl, .int .i64 xfr, .int .i64 xwh, .int .i64 xen, .bool xbr] := bP.drewN 1
  clear g1 bR bP
  generalize W1.drew = WD at *
  refine wpAnyY_take (i := 0) (v := ?_) rfl (by kernel_rfl) (by kernel_rfl) (by kernel_rfl) (by kernel_rfl) (fun _ _ _ h => h) (Or.inl ⟨by kernel_rfl, ?_⟩) hS ?_
  rotate_left
  · intro w' hSw; go_simp; with_reducible rfl
  try simp only [Act.put, zzA, zzB, zzC, zzD, zzE, zzF]
  refine wpAnyY_take (i := 1) (v := ?_) rfl (by kernel_rfl) (by kernel_rfl) (by kernel_rfl) (by kernel_rfl) (fun _ _ _ h => h) (Or.inl ⟨by kernel_rfl, ?_⟩) hS ?_
  rotate_left
  · intro w' hSw; have s3 := hSw.cell 3; have s4 := hSw.cell 4; have sl := hSw.lt; go_simp; with_reducible rfl
  try simp only [Act.put, zzA, zzB, zzC, zzD, zzE, zzF]
  refine wpAnyY_take (i := 2) (v := ?_) rfl (by kernel_rfl) (by kernel_rfl) (by kernel_rfl) (by kernel_rfl) (fun _ _ _ h => h) (Or.inl ⟨by kernel_rfl, ?_⟩) hS ?_
  rotate_left
  · intro w' hSw; go_simp; with_reducible rfl
  try simp only [Act.put, zzA, zzB, zzC, zzD, zzE, zzF]
  refine wpAnyY_take (i := 3) (v := ?_) rfl (by kernel_rfl) (by kernel_rfl) (by kernel_rfl) (by kernel_rfl) (fun _ _ _ h => h) (Or.inl ⟨by kernel_rfl, ?_⟩) hS ?_
  rotate_left
  · intro w' hSw; have s3 := hSw.cell 3; have s4 := hSw.cell 4; have sl := hSw.lt; go_simp; with_reducible rfl
  try simp only [Act.put, zzA, zzB, zzC, zzD, zzE, zzF]
  refine wpAnyY_take (i := 4) (v := ?_) rfl (by kernel_rfl) (by kernel_rfl) (by kernel_rfl) (by kernel_rfl) (fun _ _ _ h => h) (Or.inl ⟨by kernel_rfl, ?_⟩) hS ?_
  rotate_left
  · intro w' hSw; go_simp; with_reducible rfl
  try simp only [Act.put, zzA, zzB, zzC, zzD, zzE, zzF]
  refine wpAnyY_take (i := 5) (v := ?_) rfl (by kernel_rfl) (by kernel_rfl) (by kernel_rfl) (by kernel_rfl) (fun _ _ _ h => h) (Or.inl ⟨by kernel_rfl, ?_⟩) hS ?_
  rotate_left
  · intro w' hSw; have s3 := hSw.cell 3; have s4 := hSw.cell 4; have sl := hSw.lt; go_simp; with_reducible rfl
  try simp only [Act.put, zzA, zzB, zzC, zzD, zzE, zzF]
  refine wpAnyY_take (i := 6) (v := ?_) rfl (by kernel_rfl) (by kernel_rfl) (by kernel_rfl) (by kernel_rfl) (fun _ _ _ h => h) (Or.inl ⟨by kernel_rfl, ?_⟩) hS ?_
  rotate_left
  · intro w' hSw; go_simp; with_reducible rfl
  try simp only [Act.put, zzA, zzB, zzC, zzD, zzE, zzF]
  refine wpAnyY_take (i := 7) (v := ?_) rfl (by kernel_rfl) (by kernel_rfl) (by kernel_rfl) (by kernel_rfl) (fun _ _ _ h => h) (Or.inl ⟨by kernel_rfl, ?_⟩) hS ?_
  rotate_left
  · intro w' hSw; have s3 := hSw.cell 3; have s4 := hSw.cell 4; have sl := hSw.lt; go_simp; with_reducible rfl
  try simp only [Act.put, zzA, zzB, zzC, zzD, zzE, zzF]
  refine wpAnyY_take (i := 8) (v := ?_) rfl (by kernel_rfl) (by kernel_rfl) (by kernel_rfl) (by kernel_rfl) (fun _ _ _ h => h) (Or.inl ⟨by kernel_rfl, ?_⟩) hS ?_
  rotate_left
  · intro w' hSw; go_simp; with_reducible rfl
  try simp only [Act.put, zzA, zzB, zzC, zzD, zzE, zzF]
  refine wpAnyY_take (i := 9) (v := ?_) rfl (by kernel_rfl) (by kernel_rfl) (by kernel_rfl) (by kernel_rfl) (fun _ _ _ h => h) (Or.inl ⟨by kernel_rfl, ?_⟩) hS ?_
  rotate_left
  · intro w' hSw; go_simp; with_reducible rfl
  try simp only [Act.put, zzA, zzB, zzC, zzD, zzE, zzF]
  refine wpAnyY_oneSW (i := 10) (by kernel_rfl) rfl (by kernel_rfl) (fun K10 hK10 => ?_)
  go_simp
  refine hK10.out _ _ (bPD.alloc _) (fun hS => ?_)
  clear hK10
  try simp only [Act.put, zzA, zzB, zzC, zzD, zzE, zzF]
  have g2 : G w (WD.alloc (.cells #[.int .i64 0, .int .i64 0] 61)) := gD.a _
  have bC := Blk.new WD 61 #[.int .i64 0, .int .i64 0]
  have bR2 := bRD.alloc (.cells #[.int .i64 0, .int .i64 0] 61)
  have bP2 := bPD.alloc (.cells #[.int .i64 0, .int .i64 0] 61)
  have hRC : R < WD.heap.size := bRD.lt
  obtain ⟨C, hC⟩ : ∃ C, C = WD.heap.size := ⟨_, rfl⟩
  rw [← hC] at bC hRC ⊢
  clear hC gD bRD bPD
  generalize WD.alloc (.cells #[.int .i64 0, .int .i64 0] 61) = W2 at *
  have c0 := bC.cell 0
  have c1 := bC.cell 1
  have z0 := bC.frozen 0
  have z1 := bC.frozen 1
  have lC := bC.lt
  refine wpAnyY_oneW (i := 11) (by kernel_rfl) rfl (by kernel_rfl) (by kernel_rfl) (fun K11 hK11 => ?_)
  go_simp
  refine hK11.out _ _ ?_
  clear hK11
  try simp only [Act.put, zzA, zzB, zzC, zzD, zzE, zzF]
  refine wpAnyY_done (by kernel_rfl) ?_ _
  have g3 : G w ((W2.setCell ⟨C, 0, none⟩ (.int .i64 xwh)).setCell ⟨C, 1, none⟩ (.int .i64 (xen - 1))) := (g2.s (p := ⟨C, 0, none⟩) (by show w.heap.size ≤ C; omega) _).s (p := ⟨C, 1, none⟩) (by show w.heap.size ≤ C; omega) _
  have bC3 : Blk ((W2.setCell ⟨C, 0, none⟩ (.int .i64 xwh)).setCell ⟨C, 1, none⟩ (.int .i64 (xen - 1))) C 61 #[.int .i64 xwh, .int .i64 (xen - 1)] := (bC.set_ 0 (.int .i64 xwh)).set_ 1 (.int .i64 (xen - 1))
  have bR3 := (bR2.far (p := ⟨C, 0, none⟩) (by show R ≠ C; omega) (.int .i64 xwh)).far (p := ⟨C, 1, none⟩) (by show R ≠ C; omega) (.int .i64 (xen - 1))
  have bP3 := (bP2.far (p := ⟨C, 0, none⟩) (by show PK ≠ C; omega) (.int .i64 xwh)).far (p := ⟨C, 1, none⟩) (by show PK ≠ C; omega) (.int .i64 (xen - 1))
  clear c0 c1 z0 z1 lC g2 bC bR2 bP2 hS
  generalize (W2.setCell ⟨C, 0, none⟩ (.int .i64 xwh)).setCell ⟨C, 1, none⟩ (.int .i64 (xen - 1)) = W3 at *
  have m1 := bP3.cell 1
  have l3 := bP3.lt
  cases D
  all_goals
    go_wp2_with (go_at_call 82; refine (HD.out _ g3).mono ?_; rintro e w1 ⟨rfl, hG1⟩; clear HD m1 l3; replace g3 := g3.t hG1; replace bC3 := bC3.keep hG1; replace bR3 := bR3.keep hG1; replace bP3 := bP3.keep hG1; clear hG1; have m2 := bP3.cell 2; have l3 := bP3.lt; have c0 := bC3.cell 0; have c1 := bC3.cell 1; have z0 := bC3.frozen 0; have z1 := bC3.frozen 1; have lC := bC3.lt; have r0 := bR3.cell 0; have r1 := bR3.cell 1; have y0 := bR3.frozen 0; have y1 := bR3.frozen 1; have lR := bR3.lt)
  · have bF := (bR3.set_ 0 (.int .i64 xwh)).set_ 1 (.int .i64 (xen - 1))
    exact bodyPost_ret (resSpan Tryz.f57 4 _ _ R _ _ rfl rfl (bF.cell 0) (bF.cell 1)) rfl ⟨rfl, (g3.s (p := ⟨R, 0, none⟩) (by show w.heap.size ≤ R; omega) _).s (p := ⟨R, 1, none⟩) (by show w.heap.size ≤ R; omega) _⟩
  · have bF := ((bR3.far (p := ⟨C, 0, none⟩) (by show R ≠ C; omega) (.int .i64 xfr)).set_ 0 (.int .i64 xfr)).set_ 1 (.int .i64 (xen - 1))
    exact bodyPost_ret (resSpan Tryz.f57 4 _ _ R _ _ rfl rfl (bF.cell 0) (bF.cell 1)) rfl ⟨rfl, ((g3.s (p := ⟨C, 0, none⟩) (by show w.heap.size ≤ C; omega) _).s (p := ⟨R, 0, none⟩) (by show w.heap.size ≤ R; omega) _).s (p := ⟨R, 1, none⟩) (by show w.heap.size ≤ R; omega) _⟩
end Go.Proofs.YtabnpimidhlbiaaGreat

set_option linter.unusedSimpArgs false
set_option linter.unusedVariables false
namespace Go.Proofs.YtabnpimidhlbiaaGreat
open Go.RowKit Go.Shelf
attribute [local go_sem] Oper.semAt_some
/-- numbers as cells -/
def iv (l : List Int) : List Value := l.map (Value.int .i64)
theorem iv_snoc (l : List Int) (x : Int) : iv (l ++ [x]) = iv l ++ [.int .i64 x] := by simp [iv]
theorem iv_get (l : List Int) {i : Nat} (h : i < l.length) : (iv l)[i]? = some (.int .i64 (l.getD i 0)) := by
  simp [iv, List.getD_eq_getElem?_getD, h]
theorem own_ints {W : World} {B : Nat} {v : Value} {l : List Int} (h : W.ownsRow B 3 1 v l.length (iv l)) : ∃ a c, v = .slice a l.length c ∧ IntsAt W a l := by
  by_cases h0 : 0 < l.length
  · obtain ⟨g, cap, cur, rfl, hb, hg, ht⟩ := own_some h h0
    exact ⟨_, _, rfl, .inr ⟨g, 0, rfl, hg, fun k hk => by rw [Nat.zero_add]; exact take_cell hb ht (by omega) (iv_get l hk)⟩⟩
  · obtain ⟨a, c, rfl⟩ := own_slice h
    exact ⟨_, _, rfl, .inl (List.length_eq_zero_iff.1 (by omega))⟩
/-- a row of numbers of one's own -/
def IvPost (w : World) (l : List Int) (e : Ending) (w' : World) : Prop := ∃ v, e = .returned v ∧ w'.ownsRow w.heap.size 3 1 v l.length (iv l) ∧ G w w'
/-- the numbers below k for which p says yes -/
def numL (p : Nat → Bool) (k : Nat) : List Int := ((List.range k).filter p).map fun i : Nat => (i : Int)
theorem numL_succ (p : Nat → Bool) (k : Nat) : numL p (k + 1) = if p k = true then numL p k ++ [(k : Int)] else numL p k := by
  unfold numL
  rw [List.range_succ, List.filter_append, List.map_append]
  cases h : p k <;> simp [h]
theorem numL_len (p : Nat → Bool) (k : Nat) : (numL p k).length ≤ k := by
  unfold numL
  rw [List.length_map]
  exact Nat.le_trans (List.length_filter_le _ _) (by rw [List.length_range]; omega)
set_option maxRecDepth 100000 in
set_option maxHeartbeats 8000000 in
theorem numbers_any (C : FuncId) (eg : ∀ args w, (callFunc C args).run Tryz.prog w = .ok (.enter C args) w) (lb : Array Value) (n : Nat) (p : Nat → Bool) (w : World) (hn : n ≤ 100000)
    (hc : ∀ W', G w W' → ∀ i : Nat, i < n → Calls Tryz.prog C (#[.int .i64 (i : Nat)] ++ lb) W' fun e w' => e = .returned (.bool (p i)) ∧ G W' w') :
    Calls Tryz.prog 40 #[.int .i64 (n : Nat), .func (.func C) #[] lb] w (IvPost w (numL p n)) := by
  have HC := Lib.hid hc
  have HPP : Hid (∀ w' v, w'.ownsRow w.heap.size 3 1 v (numL p n).length (iv (numL p n)) → G w w' → IvPost w (numL p n) (.returned v) w') := fun w' v a b => ⟨v, rfl, a, b⟩
  generalize IvPost w (numL p n) = PP at *
  have HS := Lib.hid (numL_succ p)
  have HLN := Lib.hid (numL_len p)
  have HZ : Hid (numL p 0 = []) := rfl
  clear hc
  obtain ⟨V, hV⟩ : ∃ V : Nat → List Int, V = numL p := ⟨_, rfl⟩
  rw [← hV] at HS HPP HLN HZ
  clear hV
  obtain ⟨i0, hi0, hz0, hz1, hz2⟩ := info_parts info3
  go_enter Tryz.func40, Tryz.ntmps40
  go_wp2_with fail
  go_loopw [5, 8] (fun v i wr => ∃ k : Nat, k ≤ n ∧ i = .int .i64 k ∧ wr.ownsRow w.heap.size 3 1 v (V k).length (iv (V k)) ∧ G w wr) (fun _ i _ => n - (intOf i).toNat)
  case atStart => exact ⟨0, Nat.zero_le _, rfl, by rw [HZ.out]; exact World.ownsRow_nil _ _ _ _, G.rf _⟩
  case round =>
    obtain ⟨k, hk, rfl, ho, hG⟩ := hrel
    obtain ⟨wo, rfl⟩ : ∃ wo, wo = wr := ⟨_, rfl⟩
    have HO := Lib.hid ho
    clear ho
    by_cases hlt : k < n
    · have hki : (k : Int) < n := by omega
      have HC2 := Lib.hid (HC.out wo hG k hlt)
      have HSN := Lib.hid (HS.out k)
      have hTl := HLN.out k
      obtain ⟨T, hT⟩ : ∃ T, T = V k := ⟨_, rfl⟩
      rw [← hT] at HO HSN hTl
      clear hT HC HS
      cases hp : p k
      · rw [hp] at HC2 HSN
        have HSQ : Hid (V (k + 1) = T) := by rw [Hid, HSN.out, if_neg (by simp)]
        clear HSN
        clear hp
        go_wp2_with (go_at_fn C; refine (HC2.out).mono ?_; rintro e w2 ⟨rfl, hG2⟩)
        go_roundw
        case rel => exact ⟨k + 1, by omega, by go_num, by rw [HSQ.out]; exact own_G HO.out hG2, hG.t hG2⟩
        case measure => simp [intOf] <;> omega
      · rw [hp] at HC2 HSN
        have HSQ : Hid (V (k + 1) = T ++ [(k : Int)]) := by rw [Hid, HSN.out, if_pos rfl]
        clear HSN
        clear hp
        go_upto_region 6 with (go_at_fn C; refine (HC2.out).mono ?_; rintro e w2 ⟨rfl, hG2⟩)
        have HO2 := Lib.hid (own_G HO.out hG2)
        have hG3 := hG.t hG2
        clear HO hG2 hG HC2
        go_wp2_with (at_builtin; refine wpList_append_own _ rfl _ _ 26 rfl w.heap.size 3 i0 (.int .i64 0) 1 8 Tryz.underlying26 hi0 hz0 hz1 hz2 rfl (by decide) _ T.length (iv T) rfl ?hown ⟨_, 0, none⟩ 1 1 [.int .i64 (k : Nat)] rfl rfl (cell_one_new _ _ _) (by simp [Value.oneCell']) (by unfold maxLen; omega) (by omega) ?hbase ?hrest)
        case hown => exact own_G HO2.out ((G.rf _).a _)
        case hbase => exact (hG3.a _).size
        case hrest =>
          intro v9 w9 hown9 hg9 _
          have gz : G w w9 := grow_own (hG3.a _) (own_G HO2.out ((G.rf _).a _)) (Nat.le_refl _) hg9
          have HN := Lib.hid hown9
          clear hown9 hg9
          go_wp2
          go_roundw
          case rel => exact ⟨k + 1, by omega, by go_num, by rw [HSQ.out, iv_snoc, List.length_append]; exact HN.out, gz⟩
          case measure => simp [intOf] <;> omega
    · obtain rfl : k = n := by omega
      have hki : ¬ ((k : Nat) : Int) < k := by omega
      have HF := Lib.hid (fun v (ho : wo.ownsRow w.heap.size 3 1 v (V k).length (iv (V k))) => HPP.out wo v ho hG)
      clear HPP
      go_wp2_with fail
      first | exact HF.out _ HO.out | (go_ret; exact HF.out _ HO.out)
end Go.Proofs.YtabnpimidhlbiaaGreat

set_option linter.unusedSimpArgs false
set_option linter.unusedVariables false
namespace Go.Proofs.YtabnpimidhlbiaaGreat
open Go.RowKit Go.Shelf
attribute [local go_sem] Oper.semAt_some
/-- a row of pointers -/
def PtrAt (W : World) (a : Option Addr) (n : Nat) (P : Nat → Nat) : Prop := n = 0 ∨ ∃ g off, a = some ⟨g, off, none⟩ ∧ g < W.heap.size ∧ ∀ i, i < n → W.cell? ⟨g, off + i, none⟩ = some (.pointer (some ⟨P i, 0, none⟩))
theorem PtrAt.below {W W' : World} {a : Option Addr} {n : Nat} {P : Nat → Nat} (h : PtrAt W a n P) (hG : G W W') : PtrAt W' a n P := by
  rcases h with h | ⟨g, off, h1, h2, h3⟩
  · exact .inl h
  · exact .inr ⟨g, off, h1, Nat.lt_of_lt_of_le h2 hG.size, fun i hi => ((bcellB hG).1 g _ h2).trans (h3 i hi)⟩
theorem PsAt.ptr {W : World} {qa : Option Addr} {ps : List Pe} {P : Nat → Nat} (h : PsAt W qa ps P) : PtrAt W qa ps.length P := h.row
set_option maxRecDepth 100000 in
set_option maxHeartbeats 4000000 in
theorem IdxPe_any (C : FuncId) (eg : ∀ args w, (callFunc C args).run Tryz.prog w = .ok (.enter C args) w) (lb : Array Value) (W : World) (a : Option Addr) (cap : Nat) (n : Nat) (P : Nat → Nat) (p : Nat → Bool) (hn : n ≤ 1000) (ha : PtrAt W a n P)
    (hc : ∀ W', G W W' → ∀ i, i < n → Calls Tryz.prog C (#[.pointer (some ⟨P i, 0, none⟩)] ++ lb) W' fun e w' => e = .returned (.bool (p i)) ∧ G W' w') :
    Calls Tryz.prog 81 #[.slice a n cap, .func (.func C) #[] lb] W fun e w' => ∃ r : Int, e = .returned (.int .i64 r) ∧ decide (0 ≤ r) = anyU p n ∧ G W w' := by
  have HC := Lib.hid hc
  clear hc
  go_enter Tryz.func81, Tryz.ntmps81
  go_wp2
  go_loopw [8] (fun i wr => ∃ k : Nat, k ≤ n ∧ i = .int .i64 k ∧ Hid (∀ j, j < k → p j = false) ∧ G W wr) (fun i _ => n - (intOf i).toNat)
  case atStart => exact ⟨0, Nat.zero_le _, rfl, fun j hj => by omega, G.rf _⟩
  case round =>
    obtain ⟨k, hk, rfl, hno, hG⟩ := hrel
    by_cases hlt : k < n
    · have hki : (k : Int) < n := by omega
      rcases ha with h | ⟨g, off, rfl, hg, hcell⟩
      · omega
      have lg := Nat.lt_of_lt_of_le hg hG.size
      have q0 := ((bcellB hG).1 g _ hg).trans (hcell k hlt)
      have HC2 := Lib.hid (HC.out wr hG k hlt)
      generalize P k = PK at *
      clear hcell HC
      cases hp : p k
      · rw [hp] at HC2
        have HP := Lib.hid hp
        clear hp
        go_wp2_with (go_at_fn C; refine (HC2.out).mono ?_; rintro e w1 ⟨rfl, hG1⟩)
        go_roundw
        case rel => exact ⟨k + 1, by omega, by go_num, fun j hj => by
          rcases Nat.lt_or_ge j k with h | h
          · exact hno.out j h
          · obtain rfl : j = k := by omega
            exact HP.out, hG.t hG1⟩
        case measure => simp [intOf] <;> omega
      · rw [hp] at HC2
        have HP := Lib.hid (anyU_yes hlt hp)
        clear hp
        go_wp2_with (go_at_fn C; refine (HC2.out).mono ?_; rintro e w1 ⟨rfl, hG1⟩)
        go_ret
        exact ⟨k, rfl, by rw [HP.out]; simp, hG.t hG1⟩
    · have hki : ¬ (k : Int) < n := by omega
      obtain rfl : k = n := by omega
      have HP := Lib.hid (anyU_no hno.out)
      go_wp2
      go_ret
      exact ⟨-1, rfl, by rw [HP.out]; rfl, hG⟩
theorem CtPe_any (C : FuncId) (eg : ∀ args w, (callFunc C args).run Tryz.prog w = .ok (.enter C args) w) (lb : Array Value) (W : World) (a : Option Addr) (cap : Nat) (n : Nat) (P : Nat → Nat) (p : Nat → Bool) (hn : n ≤ 1000) (ha : PtrAt W a n P)
    (hc : ∀ W', G W W' → ∀ i, i < n → Calls Tryz.prog C (#[.pointer (some ⟨P i, 0, none⟩)] ++ lb) W' fun e w' => e = .returned (.bool (p i)) ∧ G W' w') :
    Calls Tryz.prog 54 #[.slice a n cap, .func (.func C) #[] lb] W fun e w' => e = .returned (.bool (anyU p n)) ∧ G W w' := by
  have HI := Lib.hid (IdxPe_any C eg lb W a cap n P p hn ha hc)
  clear ha hc
  go_enter Tryz.func54, Tryz.ntmps54
  go_wp2_with (go_at_call 81; refine (HI.out).mono ?_; rintro e w1 ⟨r, rfl, hr, hG1⟩; have HR := Lib.hid hr; clear hr)
  go_ret
  exact ⟨by rw [← HR.out]; first | rfl | simp, hG1⟩
end Go.Proofs.YtabnpimidhlbiaaGreat

