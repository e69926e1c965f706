import Derived.WalkKit
import Derived.Below
import Derived.BigQuiet
import Derived.Deep.QuietTactic
import Derived.Lib.Hide
import Derived.WalkSpells
import Derived.Outline
import Derived.Test.YtnkmcoljijmgpaaGreatProg
import Derived.Laws.OwnMore
import Derived.Laws.Rows
import Derived.Deep.Draws
import Derived.Laws.StructEq
import Derived.IntWalk
import Derived.Shelf.SlSorted.Search
import Derived.Ground.SlsoProg
import Derived.RangeFuncNested
import Derived.RangeFuncBound
import Derived.RangeFuncCalls
import Derived.RangeFuncLeaves
import Derived.Shelf.Abstract
import Derived.Shelf.RegionOpen
import Derived.OwnWalkIn
import Derived.TacticsInMore
import Derived.LoopNIn
import Derived.LoopIn
import Derived.OrdersHeld
import Derived.OrdersIn
import Derived.TacticsIn
import Derived.Deep.RegionHeld
import Derived.Deep.AppendLies
import Derived.Shelf.Small.Bits
import Derived.Shelf.Strconv.Itoa0
import Derived.Shelf.Sort.Plain
import Derived.Ground.Names2Prog
import Derived.Shelf.Slices.CompactI
import Derived.Shelf.Slices.SearchI
import Derived.Shelf.Slices.Cells
import Derived.Shelf.Slices.In.SortNone
import Derived.Lib.SlKeysI
import Derived.ProofKit
import Derived.OpenShut
import Derived.Lib.SmallJoins
import Derived.Deep.Slices
import Derived.Laws.AppendOwnNone
import Derived.Laws.AppendOwn
set_option linter.unusedSimpArgs false
set_option linter.unusedVariables false
namespace Go.Proofs.YtnkmcoljijmgpaaGreat
open Go.RowKit

theorem bcell {W w1 : World} (hb : Below W.heap.size W w1) : (∀ b o, b < W.heap.size → w1.cell? ⟨b, o, none⟩ = W.cell? ⟨b, o, none⟩) ∧ (∀ b o, b < W.heap.size → w1.frozen? ⟨b, o, none⟩ = W.frozen? ⟨b, o, none⟩) :=
  ⟨fun b o h => hb.cell (p := ⟨b, o, none⟩) h, fun b o h => hb.frozen (p := ⟨b, o, none⟩) h⟩

def isInB (n lo hi : Int) : Bool := decide (lo ≤ n) && decide (n ≤ hi)
def isScaleB (n : Int) : Bool := isInB n 1 2000000

def IntsAt (w : World) (a : Option Addr) (l : List Int) : Prop := l = [] ∨ ∃ b off, a = some ⟨b, off, none⟩ ∧ b < w.heap.size ∧ ∀ k, k < l.length → w.cell? ⟨b, off + k, none⟩ = some (.int .i64 (l.getD k 0))

theorem bcellB {B : Nat} {W w1 : World} (hb : Below B W w1) : (∀ b o, b < B → w1.cell? ⟨b, o, none⟩ = W.cell? ⟨b, o, none⟩) ∧ (∀ b o, b < B → w1.frozen? ⟨b, o, none⟩ = W.frozen? ⟨b, o, none⟩) :=
  ⟨fun b o h => hb.cell (p := ⟨b, o, none⟩) h, fun b o h => hb.frozen (p := ⟨b, o, none⟩) h⟩

theorem IntsAt.below {w w' : World} {a : Option Addr} {l : List Int} (h : IntsAt w a l) (hb : Below w.heap.size w w') : IntsAt w' a l := by
  rcases h with rfl | ⟨b, off, rfl, hlt, hc⟩
  · exact .inl rfl
  · exact .inr ⟨b, off, rfl, Nat.lt_of_lt_of_le hlt hb.size, fun k hk => (hb.cell (p := ⟨b, off + k, none⟩) hlt).trans (hc k hk)⟩

def validMapB (north cols : Int) (east : List Int) (lofts wrong : Int) : Bool :=
  east.all isScaleB && (isInB east.length 1 10 && (isInB cols 1 10 && (isScaleB north && (isInB lofts 1 8 && isInB wrong 0 3))))

theorem all_take_succ (p : Int → Bool) (l : List Int) (k : Nat) (h : k < l.length) : (l.take (k + 1)).all p = ((l.take k).all p && p (l.getD k 0)) := by
  rw [List.take_succ_eq_append_getElem h, List.all_append]
  simp [h]
theorem all_false (p : Int → Bool) (l : List Int) (k : Nat) (h : k < l.length) (hp : p (l.getD k 0) = false) : l.all p = false := by
  rw [List.all_eq_false]
  refine ⟨l[k], List.getElem_mem h, ?_⟩
  simp [h] at hp
  simp [hp]


abbrev G (w w' : World) : Prop := Below w.heap.size w w'
theorem G.rf (w : World) : G w w := Below.refl _ _
theorem G.t {a b c : World} (h : G a b) (k : G b c) : G a c := h.trans (k.mono h.size)
theorem G.a {a b : World} (h : G a b) (o : Obj) : G a (b.alloc o) := Below.alloc h h.size o
theorem G.d {a b : World} (h : G a b) : G a b.drew := ⟨h.os, h.tape, h.output, h.size, h.block⟩
theorem G.dn {a b : World} (h : G a b) (n : Nat) : G a (b.drewN n) := ⟨h.os, h.tape, h.output, h.size, h.block⟩
theorem G.s {a b : World} (h : G a b) {p : Addr} (hp : a.heap.size ≤ p.block) (v : Value) : G a (b.setCell p v) := Below.setCell h hp v

theorem and5 (a b c d e : Bool) : a = false ∨ (a = true ∧ b = false) ∨ (a = true ∧ b = true ∧ c = false) ∨ (a = true ∧ b = true ∧ c = true ∧ d = false) ∨ (a = true ∧ b = true ∧ c = true ∧ d = true) := by
  cases a <;> cases b <;> cases c <;> cases d <;> simp

def isSpanB (lo hi last : Int) : Bool := decide (0 ≤ lo) && (decide (lo ≤ hi) && decide (hi ≤ last))
end Go.Proofs.YtnkmcoljijmgpaaGreat
set_option linter.unusedSimpArgs false
set_option linter.unusedVariables false
namespace Go.Proofs.YtnkmcoljijmgpaaGreat
open Go.RowKit
def Blk (w : World) (g : Nat) (t : TypeId) (cs : Array Value) : Prop := w.heap[g]? = some (.cells cs t (0, 0))
section
variable {w w' : World} {g : Nat} {t : TypeId} {cs : Array Value}
theorem Blk.lt (h : Blk w g t cs) : g < w.heap.size := by
  rcases Nat.lt_or_ge g w.heap.size with hlt | hge
  · exact hlt
  · unfold Blk at h; rw [Array.getElem?_eq_none hge] at h; cases h
theorem Blk.cell (h : Blk w g t cs) (i : Nat) : w.cell? ⟨g, i, none⟩ = cs[i]? := cell_of_row w g i cs t (0, 0) h
theorem Blk.frozen (h : Blk w g t cs) (i : Nat) : w.frozen? ⟨g, i, none⟩ = false := by
  unfold Blk at h
  simp [World.frozen?, h]
theorem Blk.new (w : World) (t : TypeId) (cs : Array Value) : Blk (w.alloc (.cells cs t)) w.heap.size t cs := heap_alloc_new w _
theorem Blk.new1 (w : World) (o : Obj) (t : TypeId) (cs : Array Value) : Blk ((w.alloc o).alloc (.cells cs t)) (w.heap.size + 1) t cs := by
  have := Blk.new (w.alloc o) t cs
  rwa [World.size_alloc] at this
theorem Blk.new2 (w : World) (o o' : Obj) (t : TypeId) (cs : Array Value) : Blk (((w.alloc o).alloc o').alloc (.cells cs t)) (w.heap.size + 1 + 1) t cs := by
  have := Blk.new ((w.alloc o).alloc o') t cs
  rwa [World.size_alloc, World.size_alloc] at this
theorem Blk.drewN (h : Blk w g t cs) (n : Nat) : Blk (w.drewN n) g t cs := h
theorem Blk.alloc (h : Blk w g t cs) (o : Obj) : Blk (w.alloc o) g t cs := (Below.heap_alloc w o g h.lt).trans h
theorem Blk.set_ (h : Blk w g t cs) (i : Nat) (u : Value) : Blk (w.setCell ⟨g, i, none⟩ u) g t (cs.setIfInBounds i u) := by
  unfold Blk at h ⊢
  simp [World.setCell, Array.getElem?_modify, h]
theorem Blk.far (h : Blk w g t cs) {p : Addr} (hp : g ≠ p.block) (u : Value) : Blk (w.setCell p u) g t cs := (Below.heap_setCell w p u g hp).trans h
theorem Blk.below {B : Nat} (h : Blk w g t cs) (hb : Below B w w') (hg : g < B) : Blk w' g t cs := (hb.block g hg).trans h
theorem Blk.keep (h : Blk w g t cs) (hb : G w w') : Blk w' g t cs := h.below hb h.lt
theorem Blk.grown {row : Option Nat} (h : Blk w g t cs) (hb : w.grownBy w' row) (hg : some g ≠ row) : Blk w' g t cs := (hb.block g h.lt hg).trans h
end
end Go.Proofs.YtnkmcoljijmgpaaGreat
set_option linter.unusedSimpArgs false
set_option linter.unusedVariables false
namespace Go.Proofs.YtnkmcoljijmgpaaGreat
open Go.RowKit

def isPlaceB (cols : Int) (rows : Nat) (x y : Int) : Bool := isInB x 0 (cols - 1) && isInB y 0 (rows - 1)

theorem eq46 (a b c d : Int) (w : World) : (binOp .eql 62 (.agg #[.int .i64 a, .int .i64 b]) (.agg #[.int .i64 c, .int .i64 d])).run Tryz.prog w = .ok (.bool (a == c && b == d)) w := by
  have u3 := Tryz.underlying3
  have hS : Tryz.prog.underlying 62 = some (.struct (Tryz.prog.fieldsOf 62)) := by kernel_rfl
  have hp : Tryz.prog.stoodInHeld 62 = false := by kernel_rfl
  rw [run_eql_struct, show (10000 : Nat) = 9999 + 1 from rfl, run_equalIn_agg w 9999 62 _ _ hS hp]
  simp only [Program.fieldsOf, Tryz.underlying62]
  go_simp
  by_cases h1 : a = c <;> by_cases h2 : b = d <;> simp [h1, h2]

def validSurveyB (cols : Int) (rows : Nat) (lofts loft kind xl xh yl yh ax ay dl dh : Int) : Bool :=
  isInB loft 0 (lofts - 1) &&
  (if kind = 1 then isSpanB xl xh (cols - 1) && (isSpanB yl yh (rows - 1) && ((ax == 0 && ay == 0) && (dl == 0 && dh == 0)))
   else if kind = 2 then (xl == 0 && xh == 0) && ((yl == 0 && yh == 0) && (isPlaceB cols rows ax ay && isSpanB dl dh 100000000))
   else false)
theorem and4 (a b c : Bool) : a = false ∨ (a = true ∧ b = false) ∨ (a = true ∧ b = true ∧ c = false) ∨ (a = true ∧ b = true ∧ c = true) := by
  cases a <;> cases b <;> cases c <;> simp

section
variable (north cols lofts wrong loft kind xl xh yl yh ax ay dl dh : Int) (ea : Option Addr) (el ec : Nat) (s : Value) (w : World)
end

end Go.Proofs.YtnkmcoljijmgpaaGreat
set_option linter.unusedSimpArgs false
set_option linter.unusedVariables false
namespace Go.Proofs.YtnkmcoljijmgpaaGreat
open Go.RowKit

structure Sv where
  loft : Int
  kind : Int
  xl : Int
  xh : Int
  yl : Int
  yh : Int
  ax : Int
  ay : Int
  dl : Int
  dh : Int
instance : Inhabited Sv := ⟨⟨0, 0, 0, 0, 0, 0, 0, 0, 0, 0⟩⟩

def SvCells (w : World) (b o : Nat) (s : Sv) : Prop :=
  w.cell? ⟨b, o, none⟩ = some (.int .i64 s.loft) ∧ w.cell? ⟨b, o + 1, none⟩ = some (.int .i64 s.kind) ∧ w.cell? ⟨b, o + 2, none⟩ = some (.int .i64 s.xl) ∧ w.cell? ⟨b, o + 3, none⟩ = some (.int .i64 s.xh) ∧
  w.cell? ⟨b, o + 4, none⟩ = some (.int .i64 s.yl) ∧ w.cell? ⟨b, o + 5, none⟩ = some (.int .i64 s.yh) ∧ w.cell? ⟨b, o + 6, none⟩ = some (.int .i64 s.ax) ∧ w.cell? ⟨b, o + 7, none⟩ = some (.int .i64 s.ay) ∧
  w.cell? ⟨b, o + 8, none⟩ = some (.int .i64 s.dl) ∧ w.cell? ⟨b, o + 9, none⟩ = some (.int .i64 s.dh)

def SvsAt (w : World) (a : Option Addr) (l : List Sv) : Prop := l = [] ∨ ∃ b off, a = some ⟨b, off, none⟩ ∧ b < w.heap.size ∧ ∀ k, k < l.length → SvCells w b (off + k * 10) (l.getD k default)

theorem SvCells.below {w w' : World} {b o : Nat} {s : Sv} (h : SvCells w b o s) (hb : G w w') (hlt : b < w.heap.size) : SvCells w' b o s := by
  obtain ⟨h0, h1, h2, h3, h4, h5, h6, h7, h8, h9⟩ := h
  have hc := (bcellB hb).1
  exact ⟨(hc _ _ hlt).trans h0, (hc _ _ hlt).trans h1, (hc _ _ hlt).trans h2, (hc _ _ hlt).trans h3, (hc _ _ hlt).trans h4, (hc _ _ hlt).trans h5, (hc _ _ hlt).trans h6, (hc _ _ hlt).trans h7, (hc _ _ hlt).trans h8, (hc _ _ hlt).trans h9⟩

theorem SvsAt.below {w w' : World} {a : Option Addr} {l : List Sv} (h : SvsAt w a l) (hb : G w w') : SvsAt w' a l := by
  rcases h with rfl | ⟨b, off, rfl, hlt, hc⟩
  · exact .inl rfl
  · exact .inr ⟨b, off, rfl, Nat.lt_of_lt_of_le hlt hb.size, fun k hk => (hc k hk).below hb hlt⟩

def svOk (cols : Int) (rows : Nat) (lofts : Int) (s : Sv) : Bool := validSurveyB cols rows lofts s.loft s.kind s.xl s.xh s.yl s.yh s.ax s.ay s.dl s.dh

def checkE (north cols : Int) (east : List Int) (lofts : Int) (svs : List Sv) (wrong : Int) : Int :=
  if validMapB north cols east lofts wrong = false then 20
  else if svs.length > 16 then 21
  else if svs.all (svOk cols east.length lofts) then 0 else 21

theorem vm_bounds {north cols lofts wrong : Int} {east : List Int} (h : validMapB north cols east lofts wrong = true) :
    (1 ≤ cols ∧ cols ≤ 10) ∧ (1 ≤ lofts ∧ lofts ≤ 8) ∧ (0 ≤ wrong ∧ wrong ≤ 3) ∧ (1 ≤ north ∧ north ≤ 2000000) ∧ (1 ≤ east.length ∧ east.length ≤ 10) ∧ ∀ x ∈ east, 1 ≤ x ∧ x ≤ 2000000 := by
  simp [validMapB, isScaleB, isInB] at h
  obtain ⟨h1, h2, h3, h4, h5, h6⟩ := h
  exact ⟨by omega, by omega, by omega, by omega, by omega, h1⟩

theorem all_take_succ' {α : Type} [Inhabited α] (p : α → Bool) (l : List α) (k : Nat) (h : k < l.length) : (l.take (k + 1)).all p = ((l.take k).all p && p (l.getD k default)) := by
  rw [List.take_succ_eq_append_getElem h, List.all_append]
  simp [h]
theorem all_false' {α : Type} [Inhabited α] (p : α → Bool) (l : List α) (k : Nat) (h : k < l.length) (hp : p (l.getD k default) = false) : l.all p = false := by
  rw [List.all_eq_false]
  refine ⟨l[k], List.getElem_mem h, ?_⟩
  simp [h] at hp
  simp [hp]

end Go.Proofs.YtnkmcoljijmgpaaGreat
set_option linter.unusedSimpArgs false
set_option linter.unusedVariables false
namespace Go.Proofs.YtnkmcoljijmgpaaGreat
open Go.RowKit

def sqI (north : Int) (east : List Int) (ax ay bx bY : Int) : Int :=
  (2 * north * (ay - bY)) * (2 * north * (ay - bY)) + ((east.getD ay.toNat 0 + east.getD bY.toNat 0) * (ax - bx)) * ((east.getD ay.toNat 0 + east.getD bY.toNat 0) * (ax - bx))

theorem mul_bd {a b A B : Int} (h1 : -A ≤ a) (h2 : a ≤ A) (h3 : -B ≤ b) (h4 : b ≤ B) : -(A * B) ≤ a * b ∧ a * b ≤ A * B := by
  have hA : 0 ≤ A := by omega
  have hB : 0 ≤ B := by omega
  have e1 : 0 ≤ (A - a) * (B + b) := Int.mul_nonneg (by omega) (by omega)
  have e2 : 0 ≤ (A + a) * (B - b) := Int.mul_nonneg (by omega) (by omega)
  have e3 : 0 ≤ (A - a) * (B - b) := Int.mul_nonneg (by omega) (by omega)
  have e4 : 0 ≤ (A + a) * (B + b) := Int.mul_nonneg (by omega) (by omega)
  have x1 : (A - a) * (B + b) = A * B + A * b - a * B - a * b := by rw [Int.sub_mul, Int.mul_add, Int.mul_add]; omega
  have x2 : (A + a) * (B - b) = A * B - A * b + a * B - a * b := by rw [Int.add_mul, Int.mul_sub, Int.mul_sub]; omega
  have x3 : (A - a) * (B - b) = A * B - A * b - a * B + a * b := by rw [Int.sub_mul, Int.mul_sub, Int.mul_sub]; omega
  have x4 : (A + a) * (B + b) = A * B + A * b + a * B + a * b := by rw [Int.add_mul, Int.mul_add, Int.mul_add]; omega
  omega

end Go.Proofs.YtnkmcoljijmgpaaGreat
set_option linter.unusedSimpArgs false
set_option linter.unusedVariables false
namespace Go.Proofs.YtnkmcoljijmgpaaGreat
/-- binary search for the root: lo*lo ≤ n < hi*hi -/
def rtGo : Nat → Nat → Nat → Nat → Nat
  | 0, lo, _, _ => lo
  | f + 1, lo, hi, n => if hi ≤ lo + 1 then lo else if ((lo + hi) / 2) * ((lo + hi) / 2) ≤ n then rtGo f ((lo + hi) / 2) hi n else rtGo f lo ((lo + hi) / 2) n
def rt (n : Nat) : Nat := rtGo 32 0 4294967296 n

theorem rtGo_spec (f lo hi n : Nat) (hf : hi - lo ≤ 2 ^ f) (h1 : lo * lo ≤ n) (h2 : n < hi * hi) (h3 : lo < hi) :
    rtGo f lo hi n * rtGo f lo hi n ≤ n ∧ n < (rtGo f lo hi n + 1) * (rtGo f lo hi n + 1) := by
  induction f generalizing lo hi with
  | zero =>
    have : hi = lo + 1 := by simp at hf; omega
    subst this
    exact ⟨h1, h2⟩
  | succ f ih =>
    unfold rtGo
    have hp : 2 ^ (f + 1) = 2 * 2 ^ f := by rw [Nat.pow_succ]; omega
    split
    · have : hi = lo + 1 := by omega
      subst this
      exact ⟨h1, h2⟩
    · split
      · rename_i hc
        exact ih _ _ (by omega) hc h2 (by omega)
      · rename_i hc
        exact ih _ _ (by omega) h1 (by omega) (by omega)
theorem rt_spec (n : Nat) (h : n < 18446744073709551616) : rt n * rt n ≤ n ∧ n < (rt n + 1) * (rt n + 1) :=
  rtGo_spec 32 0 4294967296 n (by decide) (by omega) (by omega) (by omega)
theorem rt_unique (n k : Nat) (h : n < 18446744073709551616) (h1 : k * k ≤ n) (h2 : n < (k + 1) * (k + 1)) : rt n = k := by
  obtain ⟨a, b⟩ := rt_spec n h
  have c : ¬ k < rt n := fun hk => by
    have := Nat.mul_le_mul (show k + 1 ≤ rt n by omega) (show k + 1 ≤ rt n by omega)
    omega
  have d : ¬ rt n < k := fun hk => by
    have := Nat.mul_le_mul (show rt n + 1 ≤ k by omega) (show rt n + 1 ≤ k by omega)
    omega
  omega
theorem countP_cut (p : Nat → Bool) (k : Nat) : ∀ N, k ≤ N → (∀ t, t < k → p t = false) → (∀ t, k ≤ t → t < N → p t = true) → (List.range N).countP (fun i => !p i) = k
  | 0, h, _, _ => by simp; omega
  | N + 1, h, h1, h2 => by
    rw [List.range_succ, List.countP_append]
    by_cases e : k = N + 1
    · subst e
      have ih : (List.range N).countP (fun i => !p i) = N := by
        rw [List.countP_eq_length.2]
        · simp
        · intro a ha; simp at ha; simp [h1 a (by omega)]
      rw [ih]
      simp [h1 N (by omega)]
    · rw [countP_cut p k N (by omega) h1 (fun t a b => h2 t a (by omega))]
      simp [h2 N (by omega) (by omega)]
theorem rt_le (n k : Nat) (h : n < 18446744073709551616) (h2 : n < (k + 1) * (k + 1)) : rt n ≤ k := by
  obtain ⟨a, b⟩ := rt_spec n h
  apply Nat.le_of_not_lt
  intro hk
  have := Nat.mul_le_mul (show k + 1 ≤ rt n by omega) (show k + 1 ≤ rt n by omega)
  omega
theorem rt_count (n N : Nat) (h : n < 18446744073709551616) (h2 : n < (N + 1) * (N + 1)) :
    (List.range N).countP (fun r => !decide (n < (r + 1) * (r + 1))) = rt n := by
  obtain ⟨a, b⟩ := rt_spec n h
  refine countP_cut (fun r => decide (n < (r + 1) * (r + 1))) (rt n) N (rt_le n N h h2) (fun t ht => ?_) (fun t ht _ => ?_)
  · have := Nat.mul_le_mul (show t + 1 ≤ rt n by omega) (show t + 1 ≤ rt n by omega)
    simp; omega
  · have := Nat.mul_le_mul (show rt n + 1 ≤ t + 1 by omega) (show rt n + 1 ≤ t + 1 by omega)
    simp; omega
end Go.Proofs.YtnkmcoljijmgpaaGreat
namespace Go.Proofs
open Go.Shelf
end Go.Proofs
set_option linter.unusedSimpArgs false
set_option linter.unusedVariables false
namespace Go.Proofs.YtnkmcoljijmgpaaGreat
open Go.RowKit Go.Lib Go.Sort Go.Shelf

theorem grow_G (w : World) (q : Nat) (os : Array Obj) : G w (grow (w.drewN q) os) := below_grown_sl _ w q os (Nat.le_refl _)

def rtUp (n : Nat) : Nat := if rt n * rt n < n then rt n + 1 else rt n
theorem rtUp_le (n : Nat) (h : n ≤ 6400000160000000) : rtUp n ≤ 80000001 := by
  have := rt_le n 80000000 (by omega) (by omega)
  unfold rtUp; split <;> omega

end Go.Proofs.YtnkmcoljijmgpaaGreat
set_option linter.unusedSimpArgs false
set_option linter.unusedVariables false
namespace Go.Proofs.YtnkmcoljijmgpaaGreat
open Go.RowKit

def rnd (rule : Int) (n : Nat) : Nat := if rule = 0 then rt n / 2 else if rule = 1 then (rt n + 1) / 2 else (rtUp n + 1) / 2

def RoundAt (w : World) (f : Value) (rule : Int) : Prop := ∃ g lb, f = .func (.func g) #[] lb ∧ (∀ args w, (callFunc g args).run Tryz.prog w = .ok (.enter g args) w) ∧
  ∀ W n, G w W → 0 ≤ n → n ≤ 6400000160000000 → Calls Tryz.prog g (#[.int .i64 n] ++ lb) W fun e w' => e = .returned (.int .i64 (rnd rule n.toNat)) ∧ G W w'

def RoundPost (w : World) (rule : Int) (e : Ending) (w' : World) : Prop := ∃ f, e = .returned (.tuple #[f, .bool true]) ∧ G w w' ∧ RoundAt w' f rule

end Go.Proofs.YtnkmcoljijmgpaaGreat
set_option linter.unusedSimpArgs false
set_option linter.unusedVariables false
namespace Go.Proofs.YtnkmcoljijmgpaaGreat
open Go.RowKit

theorem sq_bd {north cols lofts wrong ax bx : Int} {p q : Nat} {east : List Int} (hv : validMapB north cols east lofts wrong = true) (hp : p < east.length) (hq : q < east.length)
    (h1 : isInB ax 0 (cols - 1) = true) (h2 : isInB bx 0 (cols - 1) = true) : 0 ≤ sqI north east ax p bx q ∧ sqI north east ax p bx q ≤ 2592000000000000 := by
  obtain ⟨hc, hlo, hw, hno, hel, hx⟩ := vm_bounds hv
  simp [isInB] at h1 h2
  have b1 := hx _ (show east.getD p 0 ∈ east by simp [hp])
  have b2 := hx _ (show east.getD q 0 ∈ east by simp [hq])
  unfold sqI
  simp only [Int.toNat_natCast]
  generalize east.getD p 0 = x at *
  generalize east.getD q 0 = y at *
  obtain ⟨n1, n2⟩ := mul_bd (A := 4000000) (B := 9) (a := 2 * north) (b := (p : Int) - q) (by omega) (by omega) (by omega) (by omega)
  obtain ⟨m1, m2⟩ := mul_bd (A := 4000000) (B := 9) (a := x + y) (b := ax - bx) (by omega) (by omega) (by omega) (by omega)
  obtain ⟨n3, n4⟩ := mul_bd (A := 36000000) (B := 36000000) (a := 2 * north * ((p : Int) - q)) (b := 2 * north * ((p : Int) - q)) (by omega) (by omega) (by omega) (by omega)
  obtain ⟨m3, m4⟩ := mul_bd (A := 36000000) (B := 36000000) (a := (x + y) * (ax - bx)) (b := (x + y) * (ax - bx)) (by omega) (by omega) (by omega) (by omega)
  have s1 : 0 ≤ (2 * north * ((p : Int) - q)) * (2 * north * ((p : Int) - q)) := by
    rcases Int.le_total 0 (2 * north * ((p : Int) - q)) with h | h
    · exact Int.mul_nonneg h h
    · exact Int.mul_nonneg_of_nonpos_of_nonpos h h
  have s2 : 0 ≤ ((x + y) * (ax - bx)) * ((x + y) * (ax - bx)) := by
    rcases Int.le_total 0 ((x + y) * (ax - bx)) with h | h
    · exact Int.mul_nonneg h h
    · exact Int.mul_nonneg_of_nonpos_of_nonpos h h
  omega

abbrev mapV (north cols : Int) (ea : Option Addr) (el ec : Nat) (lofts : Int) (sa : Option Addr) (sl sc : Nat) (wrong : Int) : Value :=
  .agg #[.int .i64 north, .int .i64 cols, .slice ea el ec, .int .i64 lofts, .slice sa sl sc, .int .i64 wrong]

theorem checkE_ok {north cols lofts wrong : Int} {east : List Int} {svs : List Sv} (h : checkE north cols east lofts svs wrong = 0) : validMapB north cols east lofts wrong = true := by
  unfold checkE at h
  cases hv : validMapB north cols east lofts wrong
  · simp [hv] at h
  · rfl

section
variable {north cols lofts wrong ax ay bx bY : Int} {east : List Int} {svs : List Sv} {ea sa : Option Addr} {ec sc : Nat} {w : World}

theorem sz3 {w W w' : World} (h : G W w') (hz : w.heap.size + 3 ≤ W.heap.size) : w.heap.size < w'.heap.size ∧ w.heap.size + 1 < w'.heap.size ∧ w.heap.size + 1 + 1 < w'.heap.size := by
  have := h.size
  omega

end
end Go.Proofs.YtnkmcoljijmgpaaGreat
set_option linter.unusedSimpArgs false
set_option linter.unusedVariables false
namespace Go.Proofs.YtnkmcoljijmgpaaGreat
open Go.RowKit
/-- A world that has grown out of W0: the class for regions that draw their order, whose calls make memory. -/
structure GW (W0 : World) where
  w : World
  g : G W0 w
instance (W0 : World) : Nonempty (GW W0) := ⟨⟨W0, G.rf W0⟩⟩
theorem wp_region_quiet_G {P : Program} {id : Nat} {Q : Exit → Act → World → Prop} {a : Act} {W0 : World} {l : List Oper} (hm : P.follows .mixedOrders = true) (hB : Region.lexB .any l.toArray = true)
    (h : wpQuiet P l.toArray (fun w' => ∃ x : GW W0, w' = x.w) (fun a' => ∀ w', (∃ x : GW W0, w' = x.w) → Q .normal a' w') l a) : (Code.region id l.toArray true).wp P Q a W0 :=
  wp_region_quiet (C := fun w' => ∃ x : GW W0, w' = x.w) hm hB ⟨⟨_, (G.rf W0).d⟩, rfl⟩ (by simpa using h)
theorem Calls.gq {P : Program} {f : FuncId} {args : Array Value} {W0 : World} {x : GW W0} {v : Value}
    (h : Calls P f args x.w fun e w' => e = .returned v ∧ G x.w w') : Calls P f args x.w fun e w'' => e = .returned v ∧ ∃ y : GW W0, w'' = y.w :=
  h.mono fun _ w' ⟨he, hg⟩ => ⟨he, ⟨w', x.g.t hg⟩, rfl⟩
theorem GW.cell {W0 : World} {b o : Nat} {v : Value} (h : W0.cell? ⟨b, o, none⟩ = some v) (hb : b < W0.heap.size) : ∀ x : GW W0, x.w.cell? ⟨b, o, none⟩ = some v := fun x => ((bcellB x.g).1 b o hb).trans h
theorem Blk.gw {W0 : World} {g : Nat} {t : TypeId} {cs : Array Value} (h : Blk W0 g t cs) (i : Nat) {v : Value} (hv : cs[i]? = some v) : ∀ x : GW W0, x.w.cell? ⟨g, i, none⟩ = some v := fun x => ((h.keep x.g).cell i).trans hv

def holdsB (north : Int) (east : List Int) (s : Sv) (x y : Int) : Bool :=
  if s.kind = 1 then isInB x s.xl s.xh && isInB y s.yl s.yh else isInB ((rt (sqI north east s.ax s.ay x y).toNat / 2 : Nat)) s.dl s.dh

theorem svOk_tape {cols lofts : Int} {rows : Nat} {s : Sv} (h : svOk cols rows lofts s = true) (hk : ¬ s.kind = 1) : isPlaceB cols rows s.ax s.ay = true ∧ s.kind = 2 ∧ 0 ≤ s.dl ∧ s.dl ≤ s.dh ∧ s.dh ≤ 100000000 := by
  unfold svOk validSurveyB at h
  rw [if_neg hk] at h
  by_cases h2 : s.kind = 2
  · rw [if_pos h2] at h
    simp only [Bool.and_eq_true, isSpanB, decide_eq_true_eq] at h
    exact ⟨h.2.2.2.1, h2, by omega, by omega, by omega⟩
  · rw [if_neg h2] at h; simp at h

end Go.Proofs.YtnkmcoljijmgpaaGreat
set_option linter.unusedSimpArgs false
set_option linter.unusedVariables false
namespace Go.Proofs.YtnkmcoljijmgpaaGreat
open Go.RowKit

def badB (north : Int) (east : List Int) (loft x y : Int) (s : Sv) : Bool := (s.loft == loft) && !holdsB north east s x y
def wrongN (north : Int) (east : List Int) (svs : List Sv) (loft x y : Int) : Nat := (svs.filter (badB north east loft x y)).length

theorem filter_take_succ {α : Type} [Inhabited α] (p : α → Bool) (l : List α) (k : Nat) (h : k < l.length) : ((l.take (k + 1)).filter p).length = ((l.take k).filter p).length + (if p (l.getD k default) then 1 else 0) := by
  rw [List.take_succ_eq_append_getElem h, List.filter_append]
  have : l.getD k default = l[k] := by simp [h]
  rw [this]
  cases hp : p l[k] <;> simp [hp]

end Go.Proofs.YtnkmcoljijmgpaaGreat
set_option linter.unusedSimpArgs false
set_option linter.unusedVariables false
namespace Go.Proofs.YtnkmcoljijmgpaaGreat
open Go.RowKit Go.Shelf
attribute [local go_sem] Oper.semAt_some

def rowP (y n : Nat) : List (Nat × Nat) := (List.range n).map fun x => (x, y)
def allP (cols rows : Nat) : List (Nat × Nat) := (List.range rows).flatMap fun y => rowP y cols
def ptV (p : Nat × Nat) : Value := .agg #[.int .i64 p.1, .int .i64 p.2]

theorem rowP_succ (y n : Nat) : rowP y (n + 1) = rowP y n ++ [(n, y)] := by simp [rowP, List.range_succ]
theorem allP_succ (cols rows : Nat) : allP cols (rows + 1) = allP cols rows ++ rowP rows cols := by simp [allP, List.range_succ, List.flatMap_append]
theorem allP_len (cols rows : Nat) : (allP cols rows).length = rows * cols := by
  induction rows with
  | zero => simp [allP]
  | succ n ih => rw [allP_succ, List.length_append, ih, rowP, List.length_map, List.length_range, Nat.succ_mul]
theorem allP_pre (cols rows y x : Nat) (hy : y < rows) (hx : x ≤ cols) : allP cols y ++ rowP y x <+: allP cols rows := by
  have h1 : allP cols (y + 1) <+: allP cols rows := by
    obtain ⟨k, rfl⟩ : ∃ k, rows = y + 1 + k := ⟨rows - (y + 1), by omega⟩
    clear hy
    induction k with
    | zero => exact List.prefix_rfl
    | succ k ih => exact ih.trans (by rw [show y + 1 + (k + 1) = (y + 1 + k) + 1 from rfl, allP_succ]; exact List.prefix_append _ _)
  refine List.IsPrefix.trans ?_ h1
  rw [allP_succ]
  obtain ⟨k, rfl⟩ : ∃ k, cols = x + k := ⟨cols - x, by omega⟩
  refine (List.prefix_append_right_inj _).2 ?_
  simp [rowP, List.range_add]
/-- what an iterator asks that a round keeps: its own box -/
def KB (B : Nat) (A W : World) : Prop := W.heap[B]? = A.heap[B]?
theorem KB.rf (B : Nat) (A : World) : KB B A A := rfl
theorem KB.t {B : Nat} {A C D : World} (h : KB B A C) (k : KB B C D) : KB B A D := Eq.trans k h
theorem KB.blk {B : Nat} {A W : World} (h : KB B A W) {t : TypeId} {cs : Array Value} (k : Blk A B t cs) : Blk W B t cs := Eq.trans h k
theorem KB.b {B : Nat} {w : World} (hB : B < w.heap.size) (W : World) (l : Nat) (o o' : Obj) (hl : w.heap.size ≤ l) (_ : W.heap[l]? = some o) (_ : o.isCells = false) (_ : o.isWalk = false) : KB B W (W.putObj l o') :=
  World.putObj_heap_other (by omega)
theorem rowP_len (y n : Nat) : (rowP y n).length = n := by simp [rowP]

/-- a place of a map -/
abbrev Pl (cols rows : Nat) := { p : Nat × Nat // p.1 < cols ∧ p.2 < rows }
end Go.Proofs.YtnkmcoljijmgpaaGreat
set_option linter.unusedSimpArgs false
set_option linter.unusedVariables false
namespace Go.Proofs.YtnkmcoljijmgpaaGreat
open Go.RowKit

/-- the wide fence, in a round or not -/
abbrev WR (l : Option Nat) : Fence := { Fence.wide with round := l }

def noDefer (ops : Array Oper) : Bool := ops.all fun o => match o.op with | .defer _ => false | _ => true
theorem noDefer_spec {ops : Array Oper} (h : noDefer ops = true) {i : Nat} {o : Oper} (ho : ops[i]? = some o) : ∀ c, o.op ≠ .defer c := by
  intro c hc
  obtain ⟨hi, rfl⟩ := Array.getElem?_eq_some_iff.1 ho
  have := (Array.all_eq_true.1 h) i hi
  rw [hc] at this
  cases this

section
variable {P : Program} {ops : Array Oper} {md : Region.Mode} {l : Option Nat} {n : Nat} {Q : Exit → Act → World → Prop}
theorem rowsIn_wide {row : String} {args : Array Value} {w : World} {R : Value → World → Prop} (h : Rows P row args w R) : RowsIn (WR l) n P row args w R :=
  fun c cs _ => let ⟨v, w', r, s⟩ := h c cs; ⟨v, w', r, stepsIn_wide.2 s⟩
theorem Oper.wpIn_of_wp {o : Oper} {a : Act} {w : World} {K : Act → World → Prop} (hd : ∀ c, o.op ≠ .defer c) (h : o.wp P a w K Q) : o.wpIn (WR l) n P a w K Q := by
  refine ⟨fun _ _ => trivial, ?_⟩
  have e : o.semAt (WR l).round a.eval = execOp a.eval o := by
    cases l with
    | none => exact Oper.semAt_none a.eval o
    | some l => exact Oper.semAt_some l a.eval o hd
  rw [e]
  unfold Oper.wp at h
  generalize (execOp a.eval o).run P w = r at *
  cases r with
  | ok x w' =>
    cases x <;> simp only [Oper.upon, Oper.uponIn] at h ⊢ <;> first
      | exact h
      | exact ⟨(fun hh => by cases hh), (callsIn_wide.2 h : CallsIn Fence.wide _ _ _ _ _ _)⟩
      | exact ⟨(fun hh => by cases hh), rowsIn_wide h⟩
      | exact h.elim
  | halt x w' => cases x <;> simp only [Oper.upon, Oper.uponIn] at h ⊢ <;> exact h

theorem wpAnyIn_of_wpAny (hQ : ¬ LetsOut Q) (hd : noDefer ops = true) : ∀ (fuel : Nat) (listed : Array Bool) (a : Act) (w : World), wpAny P md ops Q fuel listed a w → wpAnyIn (WR l) n P md ops Q fuel listed a w
  | 0, _, _, _, h => h
  | fuel + 1, listed, a, w, h => ⟨h.1, fun i hi => by
    have h1 := wpOp_mono (fun a' w' h' => wpAnyIn_of_wpAny hQ hd fuel _ a' w' h') (h.2 i hi)
    unfold wpOp at h1
    unfold wpOpIn
    split
    · rename_i ho; simpa [ho] using h1
    · rename_i o ho
      simp only [ho] at h1
      split
      · rename_i hw
        simp only [hw, if_true] at h1
        rcases h1 with h1 | ⟨_, h1⟩
        · exact Oper.wpIn_of_wp (noDefer_spec hd ho) h1
        · exact (hQ h1).elim
      · rename_i hw
        simp only [hw] at h1
        exact ⟨fun _ _ => trivial, h1⟩⟩

/-- a region that draws its order, in a round: from whatever gives the plain 'wpAny' -/
theorem wpIn_region_round {id : Nat} {a : Act} {w : World} (hm : P.follows .mixedOrders = true) (hQ : ¬ LetsOut Q) (hd : noDefer ops = true)
    (h : wpAny P .any ops Q ops.size (Array.replicate ops.size false) a w.drew) : (Code.region id ops true).wpIn (WR l) n P Q a w :=
  wpIn_region_any hm (wpAnyIn_of_wpAny hQ hd _ _ _ _ h)

/-- .. the held walk -/
theorem wpIn_region_held {id : Nat} {a : Act} {w : World} {S : World → Prop} {l' : List Oper} (N : Nat) (hN : l'.length = N) (hm : P.follows .mixedOrders = true) (hQ : ¬ LetsOut Q) (hd : noDefer l'.toArray = true) (hS : S w.drew)
    (h : S w.drew → wpAnyH P .any l'.toArray Q S N (Array.replicate N false) a w.drew) : (Code.region id l'.toArray true).wpIn (WR l) n P Q a w :=
  wpIn_region_round hm hQ hd (wpAny_of_held _ _ _ _ (by subst hN; simpa using h hS))

/-- .. the quiet walk in the class of the grown worlds -/
theorem wpIn_region_quiet_GR {id : Nat} {a : Act} {W0 : World} {l' : List Oper} (hm : P.follows .mixedOrders = true) (hQ : ¬ LetsOut Q) (hd : noDefer l'.toArray = true) (hB : Region.lexB .any l'.toArray = true)
    (h : wpQuiet P l'.toArray (fun w' => ∃ x : GW W0, w' = x.w) (fun a' => ∀ w', (∃ x : GW W0, w' = x.w) → Q .normal a' w') l' a) : (Code.region id l'.toArray true).wpIn (WR l) n P Q a W0 := by
  refine wpIn_region_round hm hQ hd ?_
  simp only [Region.lexB, Bool.and_eq_true] at hB
  refine wpAny_of_quiet (C := fun w' => ∃ x : GW W0, w' = x.w) (Q := fun a' => ∀ w', (∃ x : GW W0, w' = x.w) → Q .normal a' w') (fun _ w' hw' h => h w' hw') _ _ _ _ ⟨⟨_, (G.rf W0).d⟩, rfl⟩ ?_
  have := wpAnyQ_lex (C := fun w' => ∃ x : GW W0, w' = x.w) (md := .any) hB.1 l' 0 (Array.replicate l'.length false) a (by simp) (by simpa using hB.2) h
  simpa using this
end
end Go.Proofs.YtnkmcoljijmgpaaGreat
set_option linter.unusedSimpArgs false
set_option linter.unusedVariables false
namespace Go.Proofs.YtnkmcoljijmgpaaGreat
open Go.RowKit Go.Shelf

/-- what lay in W lies in W', but for the blocks of R -/
structure Fr (R : Nat → Prop) (W W' : World) : Prop where
  os : W'.os = W.os
  tape : W'.tape = W.tape
  output : W'.output = W.output
  size : W.heap.size ≤ W'.heap.size
  block : ∀ i, i < W.heap.size → ¬ R i → W'.heap[i]? = W.heap[i]?
section
variable {R : Nat → Prop} {A B C : World}
theorem Fr.rf (R : Nat → Prop) (A : World) : Fr R A A := ⟨rfl, rfl, rfl, Nat.le_refl _, fun _ _ _ => rfl⟩
theorem Fr.t (h : Fr R A B) (k : Fr R B C) : Fr R A C := ⟨k.os.trans h.os, k.tape.trans h.tape, k.output.trans h.output, Nat.le_trans h.size k.size, fun i hi hr => (k.block i (Nat.lt_of_lt_of_le hi h.size) hr).trans (h.block i hi hr)⟩
theorem G.fr (h : G A B) : Fr R A B := ⟨h.os, h.tape, h.output, h.size, fun i hi _ => h.block i hi⟩
theorem Fr.a (h : Fr R A B) (o : Obj) : Fr R A (B.alloc o) := h.t (G.fr ((G.rf B).a o))
theorem Fr.g (h : Fr R A B) (k : G B C) : Fr R A C := h.t k.fr
theorem Fr.d (h : Fr R A B) : Fr R A B.drew := h.t (G.fr ((G.rf B).d))
theorem Fr.s (h : Fr R A B) {p : Addr} (hp : R p.block ∨ A.heap.size ≤ p.block) (v : Value) : Fr R A (B.setCell p v) :=
  ⟨h.os, h.tape, h.output, by have := h.size; simpa [World.setCell] using this, fun i hi hr => (Below.heap_setCell B p v i (by
    rintro rfl
    rcases hp with hp | hp
    · exact hr hp
    · omega)).trans (h.block i hi hr)⟩
theorem Fr.grown (h : Fr R A B) {row : Option Nat} (hg : B.grownBy C row) (hr : ∀ g, row = some g → R g ∨ A.heap.size ≤ g) : Fr R A C :=
  ⟨hg.os.trans h.os, hg.tape.trans h.tape, hg.output.trans h.output, Nat.le_trans h.size hg.size, fun i hi hn => (hg.block i (Nat.lt_of_lt_of_le hi h.size) (fun e => by
    rcases hr i e.symm with h' | h'
    · exact hn h'
    · omega)).trans (h.block i hi hn)⟩
theorem Fr.mono {R' : Nat → Prop} (h : Fr R A B) (hr : ∀ i, i < A.heap.size → R i → R' i) : Fr R' A B := ⟨h.os, h.tape, h.output, h.size, fun i hi hn => h.block i hi (fun hh => hn (hr i hi hh))⟩
theorem Fr.toG (h : Fr R A B) (hr : ∀ i, i < A.heap.size → ¬ R i) : G A B := ⟨h.os, h.tape, h.output, h.size, fun i hi => h.block i hi (hr i hi)⟩
theorem Fr.blk {g : Nat} {t : TypeId} {cs : Array Value} (h : Fr R A B) (k : Blk A g t cs) (hg : ¬ R g) : Blk B g t cs := (h.block g k.lt hg).trans k
theorem Fr.kb {b : Nat} (h : Fr R A B) (hb : b < A.heap.size) (hr : ¬ R b) : KB b A B := h.block b hb hr
theorem Fr.keeps (h : Fr R A B) (hr : ∀ i, R i → i < A.heap.size → ∃ c t f, A.heap[i]? = some (.cells c t f)) (b : Nat) : KeepsFrom b A B :=
  ⟨h.size, fun k o _ hk ho => by
    have hlt := (Array.getElem?_eq_some_iff.1 hk).1
    rw [h.block k hlt (fun hR => by
      obtain ⟨c, t, f, e⟩ := hr k hR hlt
      rw [e] at hk; cases hk; cases ho)]
    exact hk⟩
end

theorem blk_own {β : Type} (g : Nat) (t : TypeId) (f : β → Array Value) : Own (fun s W => Blk W g t (f s)) := fun _ X _ row hs hg hrow =>
  hs.grown hg (fun e' => by obtain ⟨o, ho, hc⟩ := hrow g e'.symm; rw [show X.heap[g]? = _ from hs] at ho; cases ho; cases hc)

variable {F : Fence} {n : Nat} {P : Program}
/-- a range over a function whose one loop variable is boxed: slot tb holds the box's address -/
theorem rangeFunc_box {α : Type} {g : Operand} {tv : Tmp} {assign body : Code} {Q : Exit → Act → World → Prop} {a : Act} {w : World}
    (hro : F.round = none) (h1 : 1 ≤ n) {gf : Nat} {lb : Array Value} (hg : a.eval g = .func (.func gf) #[] lb) (hFg : F.fn gf) (eg : ∀ args w, (callFunc gf args).run P w = .ok (.enter gf args) w)
    {ev : α → Value} {B : Nat} {S Sp : List α → Prop} {N : Nat} {w0 : World} (hseq : SeqStopsK F (n - 1) P gf lb (fun x => #[ev x]) (KB B) S Sp N w0)
    (hB : B < w.heap.size) (hb0 : Below w0.heap.size w0 w)
    (I : List α → World → Prop) (Ix : Code → List α → World → Prop) (hI : OwnFrom w.heap.size I) (hIx : ∀ c, OwnFrom w.heap.size (Ix c)) (hIs : ∀ pre W, I pre W → w.heap.size ≤ W.heap.size) (h0 : I [] w)
    (tb : Tmp) (tt : TypeId) (bx : α → Array Value)
    (hassign : ∀ (l : Nat) (x : α) (W : World) (K : Act → World → Prop), K { tmps := (a.tmps.setIfInBounds tv (ev x)).setIfInBounds tb (.pointer (some ⟨W.heap.size, 0, none⟩)), defers := [] } (W.alloc (.cells (bx x) tt)) →
      assign.wpIn (F.inRound l) (n - 1 - 1) P (Exit.then K (fun _ _ _ => False)) { tmps := a.tmps.setIfInBounds tv (ev x), defers := [] } W)
    (hbody : ∀ (l : Nat) (pre : List α) (x : α) (Bp : Nat) (W : World), w.heap.size ≤ l → (∃ r, W.heap[l]? = some (.loop r)) → I pre W → w.heap.size ≤ Bp → Blk W Bp tt (bx x) → pre.length < N →
      body.wpIn (F.inRound l) (n - 1 - 1) P (ownPostG w.heap.size (KB B) I Ix (pre ++ [x]) W) { tmps := (a.tmps.setIfInBounds tv (ev x)).setIfInBounds tb (.pointer (some ⟨Bp, 0, none⟩)), defers := [] } W)
    (hdone : ∀ (D : Nat) (xs : List α) (W : World), w.heap.size ≤ D → S xs → I xs W → W.heap[D]? = some (.deferred (some [])) → Q .normal { a with defers := { target := .collected D, args := #[] } :: a.defers } W)
    (hstop : ∀ (D : Nat) (c : Code) (pre : List α) (W : World), w.heap.size ≤ D → Sp pre → Ix c pre W → W.heap[D]? = some (.deferred (some [])) → c.wpIn F n P Q { a with defers := { target := .collected D, args := #[] } :: a.defers } W) :
    (Code.rangeFunc g #[tv] assign body).wpIn F n P Q a w := by
  refine wpIn_rangeFunc_ownH hro h1 hg hFg eg hseq (fun h k => KB.t h k) (KB.b hB) hb0 (fun _ => rfl) I Ix hI hIx h0
    (fun x a' W => ∃ Bp, w.heap.size ≤ Bp ∧ Blk W Bp tt (bx x) ∧ a' = { tmps := (a.tmps.setIfInBounds tv (ev x)).setIfInBounds tb (.pointer (some ⟨Bp, 0, none⟩)), defers := [] })
    ?_ ?_ ?_ hdone hstop
  · rintro x a' _ X Y row ⟨Bp, h1, h2, h3⟩ hg' hr
    exact ⟨Bp, h1, blk_own Bp tt (fun _ : Unit => bx x) () X Y row h2 hg' (fun r e => (hr r e).2), h3⟩
  · intro l pre x W K hi hK
    have e : ((#[tv] : Array Tmp).zip #[ev x]).foldl (fun t (p, v) => t.setIfInBounds p v) a.tmps = a.tmps.setIfInBounds tv (ev x) := by simp
    rw [e]
    refine hassign l x W K (hK _ _ ((KeepsOthers.alloc W _).from _) ?_ (hI.alloc _ hi) ⟨W.heap.size, hIs _ _ hi, Blk.new _ _ _, rfl⟩)
    exact Below.heap_alloc W _ B (Nat.lt_of_lt_of_le hB (hIs _ _ hi))
  · rintro l pre x a' W hl hr hi ⟨Bp, h1, h2, rfl⟩ hN
    exact hbody l pre x Bp W hl hr hi h1 h2 hN
end Go.Proofs.YtnkmcoljijmgpaaGreat
set_option linter.unusedSimpArgs false
set_option linter.unusedVariables false
namespace Go.Proofs.YtnkmcoljijmgpaaGreat
open Go.RowKit

section
variable {P : Program} {ops : Array Oper} {md : Region.Mode} {Q : Exit → Act → World → Prop} {S : World → Prop} {z : Nat}
/-- whatever order is picked; S holds behind every operation but number z, which waits for all that is taken first -/
def wpAnyZ (P : Program) (md : Region.Mode) (ops : Array Oper) (Q : Exit → Act → World → Prop) (S : World → Prop) (z : Nat) : Nat → Array Bool → Act → World → Prop
  | 0, l, a, w => Region.ready md ops l = [] ∧ Q .normal a w
  | fuel + 1, l, a, w => (Region.ready md ops l = [] → Q .normal a w) ∧
    ∀ i ∈ Region.ready md ops l, wpOp P ops Q i (fun a' w' => (i ≠ z → S w') ∧ wpAnyZ P md ops Q S z fuel (l.setIfInBounds i true) a' w') a w

theorem wpAny_of_Z : ∀ (fuel : Nat) (l : Array Bool) (a : Act) (w : World), wpAnyZ P md ops Q S z fuel l a w → wpAny P md ops Q fuel l a w
  | 0, _, _, _, h => h
  | fuel + 1, _, _, _, h => ⟨h.1, fun i hi => wpOp_mono (fun _ _ h' => wpAny_of_Z fuel _ _ _ h'.2) (h.2 i hi)⟩

/-- operation z waits for operation i, at once or by others -/
def waitsT (md : Region.Mode) (ops : Array Oper) : Nat → Nat → Nat → Bool
  | 0, _, _ => false
  | f + 1, z, i =>
    match ops[z]? with
    | some o => o.after.any fun e => Region.binds md e && (e.on == i || waitsT md ops f e.on i)
    | none => false
/-- whoever is listed, those that it waits for are -/
def closedB (md : Region.Mode) (ops : Array Oper) (l : Array Bool) : Bool :=
  (List.range ops.size).all fun k => !l.getD k false || ((ops[k]?).map fun o => o.after.all fun e => !Region.binds md e || l.getD e.on false).getD true
def Closed (md : Region.Mode) (ops : Array Oper) (l : Array Bool) : Prop := ∀ k o, ops[k]? = some o → l.getD k false = true → ∀ e ∈ o.after, Region.binds md e = true → l.getD e.on false = true
theorem closed_of_B {l : Array Bool} (h : closedB md ops l = true) : Closed md ops l := by
  intro k o ho hk e he hb
  have hlt := (Array.getElem?_eq_some_iff.1 ho).1
  have h1 := (List.all_eq_true.1 h) k (List.mem_range.2 hlt)
  rw [hk, ho] at h1
  simp only [Bool.not_true, Bool.false_or, Option.map_some, Option.getD_some, Array.all_eq_true] at h1
  obtain ⟨q, hq, rfl⟩ := Array.getElem_of_mem he
  have h2 := h1 q hq
  rw [hb] at h2
  simpa using h2
theorem Closed.set {l : Array Bool} {j : Nat} (h : Closed md ops l) (hj : j ∈ Region.ready md ops l) : Closed md ops (l.setIfInBounds j true) := by
  intro k o ho hk e he hb
  by_cases hkj : j = k
  · subst hkj
    obtain ⟨_, o', ho', hall⟩ := mem_ready.1 hj
    rw [ho] at ho'
    cases ho'
    exact getD_set_true (hall e he hb)
  · rw [getD_set_ne false hkj] at hk
    exact getD_set_true (h k o ho hk e he hb)
theorem Closed.waits {l : Array Bool} (h : Closed md ops l) : ∀ (f z i : Nat) (o : Oper), ops[z]? = some o → (∀ e ∈ o.after, Region.binds md e = true → l.getD e.on false = true) → waitsT md ops f z i = true → l.getD i false = true
  | 0, _, _, _, _, _, hw => by cases hw
  | f + 1, z, i, o, ho, hall, hw => by
    unfold waitsT at hw
    rw [ho] at hw
    simp only [Array.any_eq_true, Bool.and_eq_true, Bool.or_eq_true, beq_iff_eq] at hw
    obtain ⟨k, hk, hb, hc⟩ := hw
    have h1 := hall _ (Array.getElem_mem hk) hb
    rcases hc with rfl | hc
    · exact h1
    · cases hq : ops[(o.after[k]).on]? with
      | none => unfold waitsT at hc; cases f <;> simp [hq] at hc
      | some o' => exact Closed.waits h f _ i o' hq (h _ o' hq h1) hc

theorem not_ready_of_waits {i : Nat} {l : Array Bool} (hcl : Closed md ops l) (hw : waitsT md ops 40 z i = true) (hi : i ∈ Region.ready md ops l) : z ∉ Region.ready md ops l := by
  intro hz
  obtain ⟨_, o, ho, hall⟩ := mem_ready.1 hz
  obtain ⟨hun, _, _, _⟩ := mem_ready.1 hi
  have h1 := hcl.waits 40 z i o ho hall hw
  cases hq : l[i]? <;> simp [hq] at hun h1
  rw [hun] at h1
  cases h1

theorem wpAnyZ_first {i : Nat} {oi : Oper} {v : Value} (hi : ops[i]? = some oi) (hsel : Region.noSelect ops = true) (hz : i ≠ z) (hw : waitsT md ops 40 z i = true)
    (hQ : ∀ c a w, Q (.panic c) (a.put oi.dst v) w → Q (.panic c) a w) :
    ∀ (fuel : Nat) (l : Array Bool) (a : Act) (w : World), Closed md ops l → (∀ j oj, ops[j]? = some oj → j ≠ i → l.getD j true = false → (∀ e ∈ oj.after, Region.binds md e = true → e.on ≠ i) → oi.apart ops oj = true) →
      i ∈ Region.ready md ops l → YieldsIf P ops S oi v a → S w → wpAnyZ P md ops Q S z fuel (l.setIfInBounds i true) (a.put oi.dst v) w → wpAnyZ P md ops Q S z (fuel + 1) l a w
  | fuel, l, a, w, hcl, hfree, hr, hy, hS, H => by
    refine ⟨fun h => absurd (h ▸ hr) (by simp), fun j hj => ?_⟩
    by_cases hji : j = i
    · subst hji
      exact hy.wpOp hi hS ⟨fun _ => hS, H⟩
    have hj2 := ready_mono hj hji
    cases fuel with
    | zero => rw [H.1] at hj2; cases hj2
    | succ fuel =>
      have hjz : j ≠ z := fun e => not_ready_of_waits hcl hw hr (e ▸ hj)
      obtain ⟨hjun, oj, hoj, hall⟩ := mem_ready.1 hj
      have hno : ∀ e ∈ oj.after, Region.binds md e = true → e.on ≠ i := fun e he hb heq => by
        have h1 := hall e he hb
        have h0 := (mem_ready.1 hr).1
        rw [heq] at h1
        cases hq : l[i]? <;> simp [hq] at h0 h1
        rw [h0] at h1
        cases h1
      have h2 := wpOp_putIf hoj (hfree j oj hoj hji hjun hno) (fun cs b => Region.noSelect_spec hsel i oi cs b hi) (fun cs b => Region.noSelect_spec hsel j oj cs b hoj) hQ hy (H.2 j hj2)
      refine wpOp_mono (fun a' w' h3 => ⟨fun _ => h3.2.1 hjz, ?_⟩) h2
      refine wpAnyZ_first hi hsel hz hw hQ fuel _ a' w' (hcl.set hj) (fun k ok hk hki hun hn => hfree k ok hk hki ?_ hn) (ready_mono hr (Ne.symm hji)) h3.1 (h3.2.1 hjz) ?_
      · by_cases hjk : j = k
        · exact hjk ▸ hjun
        · rwa [getD_set_ne true hjk] at hun
      · rw [Array.setIfInBounds_comm _ _ hji]
        exact h3.2.2

theorem wpAnyZ_take {i : Nat} {oi : Oper} {v : Value} {fuel : Nat} {l : Array Bool} {a : Act} {w : World} (hi : ops[i]? = some oi) (hs : Region.noSelect ops = true) (hf : Region.free md ops l i = true)
    (hr : (Region.ready md ops l).contains i = true) (hw : (decide (i ≠ z) && waitsT md ops 40 z i && closedB md ops l) = true) (hQ : ∀ c a w, Q (.panic c) (a.put oi.dst v) w → Q (.panic c) a w) (hy : YieldsIf P ops S oi v a) (hS : S w)
    (h : wpAnyZ P md ops Q S z fuel (l.setIfInBounds i true) (a.put oi.dst v) w) : wpAnyZ P md ops Q S z (fuel + 1) l a w := by
  simp only [Bool.and_eq_true, decide_eq_true_eq] at hw
  exact wpAnyZ_first hi hs hw.1.1 hw.1.2 hQ fuel l a w (closed_of_B hw.2) (Region.free_spec hi hf) (by simpa using hr) hy hS h

/-- one operation alone may come up -/
theorem wpAnyZ_one {i : Nat} {o : Oper} {fuel : Nat} {l : Array Bool} {a : Act} {w : World} (hr : Region.ready md ops l = [i]) (ho : ops[i]? = some o)
    (h : ∀ K' : Act → World → Prop, Shut (∀ a w, (i ≠ z → S w) → ((i ≠ z → S w) → wpAnyZ P md ops Q S z fuel (l.setIfInBounds i true) a w) → K' a w) → if Region.wanted o (yielded ops a.tmps) = true then Oper.wp P o a w K' Q else K' (a.put o.dst undef) w) :
    wpAnyZ P md ops Q S z (fuel + 1) l a w := by
  refine ⟨fun h0 => (by rw [hr] at h0; cases h0), fun j hj => ?_⟩
  rw [hr] at hj
  obtain rfl : j = i := by simpa using hj
  exact wpOp_step ho (fun K' hK => h K' (fun a w hS hW => hK a w ⟨hS, hW hS⟩))

theorem wpAnyZ_two {i k : Nat} {o o' : Oper} {fuel : Nat} {l : Array Bool} {a : Act} {w : World} (hr : Region.ready md ops l = [i, k]) (ho : ops[i]? = some o) (ho' : ops[k]? = some o')
    (h : ∀ K' : Act → World → Prop, Shut (∀ a w, (i ≠ z → S w) → ((i ≠ z → S w) → wpAnyZ P md ops Q S z fuel (l.setIfInBounds i true) a w) → K' a w) → if Region.wanted o (yielded ops a.tmps) = true then Oper.wp P o a w K' Q else K' (a.put o.dst undef) w)
    (h' : ∀ K' : Act → World → Prop, Shut (∀ a w, (k ≠ z → S w) → ((k ≠ z → S w) → wpAnyZ P md ops Q S z fuel (l.setIfInBounds k true) a w) → K' a w) → if Region.wanted o' (yielded ops a.tmps) = true then Oper.wp P o' a w K' Q else K' (a.put o'.dst undef) w) :
    wpAnyZ P md ops Q S z (fuel + 1) l a w := by
  refine ⟨fun h0 => (by rw [hr] at h0; cases h0), fun j hj => ?_⟩
  rw [hr] at hj
  simp only [List.mem_cons, List.not_mem_nil, or_false] at hj
  rcases hj with rfl | rfl
  · exact wpOp_step ho (fun K' hK => h K' (fun a w hS hW => hK a w ⟨hS, hW hS⟩))
  · exact wpOp_step ho' (fun K' hK => h' K' (fun a w hS hW => hK a w ⟨hS, hW hS⟩))

/-- Q, but False at a panic -/
def NoP (Q : Exit → Act → World → Prop) : Exit → Act → World → Prop
  | .panic _, _, _ => False
  | e, a, w => Q e a w
theorem NoP.imp : ∀ (e : Exit) (a : Act) (w : World), NoP Q e a w → Q e a w := fun e a w h => by
  cases e <;> first | exact h | exact (h : False).elim
theorem NoP.lets (h : ¬ LetsOut Q) : ¬ LetsOut (NoP Q) := fun ⟨a, w, q⟩ => h ⟨a, w, q⟩
theorem wpAnyZ_done {l : Array Bool} {a : Act} {w : World} (hr : Region.ready md ops l = []) (h : Q .normal a w) : ∀ fuel, wpAnyZ P md ops (NoP Q) S z fuel l a w
  | 0 => ⟨hr, h⟩
  | _ + 1 => ⟨fun _ => h, by rw [hr]; simp⟩
end

theorem wpIn_region_Z {P : Program} {Q : Exit → Act → World → Prop} {l : Option Nat} {n : Nat} {id : Nat} {a : Act} {w : World} {S : World → Prop} {l' : List Oper} (z N : Nat) (hN : l'.length = N) (hm : P.follows .mixedOrders = true) (hQ : ¬ LetsOut Q) (hd : noDefer l'.toArray = true) (hS : S w.drew)
    (h : S w.drew → wpAnyZ P .any l'.toArray (NoP Q) S z N (Array.replicate N false) a w.drew) : (Code.region id l'.toArray true).wpIn (WR l) n P Q a w :=
  Code.wpIn_mono NoP.imp (wpIn_region_round hm (NoP.lets hQ) hd (wpAny_of_Z _ _ _ _ (by subst hN; simpa using h hS)))
theorem wp_region_Z {P : Program} {Q : Exit → Act → World → Prop} {id : Nat} {a : Act} {w : World} {S : World → Prop} {l' : List Oper} (z N : Nat) (hN : l'.length = N) (hm : P.follows .mixedOrders = true) (hS : S w.drew)
    (h : S w.drew → wpAnyZ P .any l'.toArray (NoP Q) S z N (Array.replicate N false) a w.drew) : (Code.region id l'.toArray true).wp P Q a w :=
  Code.wp_mono NoP.imp (wp_region_any hm (wpAny_of_Z _ _ _ _ (by subst hN; simpa using h hS)))
end Go.Proofs.YtnkmcoljijmgpaaGreat
set_option linter.unusedSimpArgs false
set_option linter.unusedVariables false
namespace Go.Proofs.YtnkmcoljijmgpaaGreat
open Go.RowKit

section
variable {P : Program} {ops : Array Oper} {md : Region.Mode} {Q : Exit → Act → World → Prop} {S : World → Prop} {z : Nat}
/-- whatever order is picked; S holds as long as operation z is not listed -/
def wpAnyY (P : Program) (md : Region.Mode) (ops : Array Oper) (Q : Exit → Act → World → Prop) (S : World → Prop) (z : Nat) : Nat → Array Bool → Act → World → Prop
  | 0, l, a, w => Region.ready md ops l = [] ∧ Q .normal a w
  | fuel + 1, l, a, w => (Region.ready md ops l = [] → Q .normal a w) ∧
    ∀ i ∈ Region.ready md ops l, wpOp P ops Q i (fun a' w' => ((l.setIfInBounds i true).getD z false = false → S w') ∧ wpAnyY P md ops Q S z fuel (l.setIfInBounds i true) a' w') a w

theorem wpAny_of_Y : ∀ (fuel : Nat) (l : Array Bool) (a : Act) (w : World), wpAnyY P md ops Q S z fuel l a w → wpAny P md ops Q fuel l a w
  | 0, _, _, _, h => h
  | fuel + 1, _, _, _, h => ⟨h.1, fun i hi => wpOp_mono (fun _ _ h' => wpAny_of_Y fuel _ _ _ h'.2) (h.2 i hi)⟩

theorem wpAnyY_first {i : Nat} {oi : Oper} {v : Value} (hi : ops[i]? = some oi) (hsel : Region.noSelect ops = true) (hz : i ≠ z) (hw : waitsT md ops 40 z i = true)
    (hQ : ∀ c a w, Q (.panic c) (a.put oi.dst v) w → Q (.panic c) a w) :
    ∀ (fuel : Nat) (l : Array Bool) (a : Act) (w : World), Closed md ops l → l.getD z false = false → (∀ j oj, ops[j]? = some oj → j ≠ i → l.getD j true = false → (∀ e ∈ oj.after, Region.binds md e = true → e.on ≠ i) → oi.apart ops oj = true) →
      i ∈ Region.ready md ops l → YieldsIf P ops S oi v a → S w → wpAnyY P md ops Q S z fuel (l.setIfInBounds i true) (a.put oi.dst v) w → wpAnyY P md ops Q S z (fuel + 1) l a w
  | fuel, l, a, w, hcl, hlz, hfree, hr, hy, hS, H => by
    refine ⟨fun h => absurd (h ▸ hr) (by simp), fun j hj => ?_⟩
    by_cases hji : j = i
    · subst hji
      exact hy.wpOp hi hS ⟨fun _ => hS, H⟩
    have hj2 := ready_mono hj hji
    cases fuel with
    | zero => rw [H.1] at hj2; cases hj2
    | succ fuel =>
      have hjz : j ≠ z := fun e => not_ready_of_waits hcl hw hr (e ▸ hj)
      have hlz' : (l.setIfInBounds j true).getD z false = false := by rw [getD_set_ne false hjz]; exact hlz
      obtain ⟨hjun, oj, hoj, hall⟩ := mem_ready.1 hj
      have hno : ∀ e ∈ oj.after, Region.binds md e = true → e.on ≠ i := fun e he hb heq => by
        have h1 := hall e he hb
        have h0 := (mem_ready.1 hr).1
        rw [heq] at h1
        cases hq : l[i]? <;> simp [hq] at h0 h1
        rw [h0] at h1
        cases h1
      have h2 := wpOp_putIf hoj (hfree j oj hoj hji hjun hno) (fun cs b => Region.noSelect_spec hsel i oi cs b hi) (fun cs b => Region.noSelect_spec hsel j oj cs b hoj) hQ hy (H.2 j hj2)
      have hlz2 : ((l.setIfInBounds i true).setIfInBounds j true).getD z false = false := by rw [getD_set_ne false hjz, getD_set_ne false hz]; exact hlz
      refine wpOp_mono (fun a' w' h3 => ⟨fun _ => h3.2.1 hlz2, ?_⟩) h2
      refine wpAnyY_first hi hsel hz hw hQ fuel _ a' w' (hcl.set hj) hlz' (fun k ok hk hki hun hn => hfree k ok hk hki ?_ hn) (ready_mono hr (Ne.symm hji)) h3.1 (h3.2.1 hlz2) ?_
      · by_cases hjk : j = k
        · exact hjk ▸ hjun
        · rwa [getD_set_ne true hjk] at hun
      · rw [Array.setIfInBounds_comm _ _ hji]
        exact h3.2.2

/-- .. at once, or by others: asked in this order (the kernel is quick at the first) -/
def waitsD (md : Region.Mode) (ops : Array Oper) (z i : Nat) : Bool :=
  (match ops[z]? with | some o => o.after.any fun e => Region.binds md e && e.on == i | none => false) || waitsT md ops 40 z i
theorem waitsD_T {i : Nat} (h : waitsD md ops z i = true) : waitsT md ops 40 z i = true := by
  unfold waitsD at h
  rw [Bool.or_eq_true] at h
  rcases h with h | h
  · unfold waitsT
    cases ho : ops[z]? with
    | none => rw [ho] at h; cases h
    | some o =>
      rw [ho] at h
      simp only [Array.any_eq_true, Bool.and_eq_true, beq_iff_eq] at h ⊢
      obtain ⟨k, hk, hb, he⟩ := h
      exact ⟨k, hk, hb, by simp [he]⟩
  · exact h
theorem wpAnyY_take {i : Nat} {oi : Oper} {v : Value} {fuel : Nat} {l : Array Bool} {a : Act} {w : World} (hi : ops[i]? = some oi) (hs : Region.noSelect ops = true) (hf : Region.free md ops l i = true)
    (hr : (Region.ready md ops l).contains i = true) (hw : (decide (i ≠ z) && (waitsD md ops z i && (closedB md ops l && !l.getD z false))) = true) (hQ : ∀ c a w, Q (.panic c) (a.put oi.dst v) w → Q (.panic c) a w) (hy : YieldsIf P ops S oi v a) (hS : S w)
    (h : wpAnyY P md ops Q S z fuel (l.setIfInBounds i true) (a.put oi.dst v) w) : wpAnyY P md ops Q S z (fuel + 1) l a w := by
  simp only [Bool.and_eq_true, decide_eq_true_eq, Bool.not_eq_true'] at hw
  exact wpAnyY_first hi hs hw.1 (waitsD_T hw.2.1) hQ fuel l a w (closed_of_B hw.2.2.1) hw.2.2.2 (Region.free_spec hi hf) (by simpa using hr) hy hS h

/-- one operation alone may come up, and z is listed or is this one -/
theorem wpAnyY_one {i : Nat} {o : Oper} {fuel : Nat} {l : Array Bool} {a : Act} {w : World} (hr : Region.ready md ops l = [i]) (ho : ops[i]? = some o) (hz : (l.setIfInBounds i true).getD z false = true)
    (h : ∀ K' : Act → World → Prop, Shut (∀ a w, wpAnyY P md ops Q S z fuel (l.setIfInBounds i true) a w → K' a w) → if Region.wanted o (yielded ops a.tmps) = true then Oper.wp P o a w K' Q else K' (a.put o.dst undef) w) :
    wpAnyY P md ops Q S z (fuel + 1) l a w := by
  refine ⟨fun h0 => (by rw [hr] at h0; cases h0), fun j hj => ?_⟩
  rw [hr] at hj
  obtain rfl : j = i := by simpa using hj
  exact wpOp_step ho (fun K' hK => h K' (fun a w hW => hK a w ⟨fun e => (by rw [hz] at e; cases e), hW⟩))
/-- .. where S is told -/
theorem wpAnyY_oneS {i : Nat} {o : Oper} {fuel : Nat} {l : Array Bool} {a : Act} {w : World} (hr : Region.ready md ops l = [i]) (ho : ops[i]? = some o)
    (h : ∀ K' : Act → World → Prop, Shut (∀ a w, S w → (S w → wpAnyY P md ops Q S z fuel (l.setIfInBounds i true) a w) → K' a w) → if Region.wanted o (yielded ops a.tmps) = true then Oper.wp P o a w K' Q else K' (a.put o.dst undef) w) :
    wpAnyY P md ops Q S z (fuel + 1) l a w := by
  refine ⟨fun h0 => (by rw [hr] at h0; cases h0), fun j hj => ?_⟩
  rw [hr] at hj
  obtain rfl : j = i := by simpa using hj
  exact wpOp_step ho (fun K' hK => h K' (fun a w hS hW => hK a w ⟨fun _ => hS, hW hS⟩))
end
theorem wpAnyY_done {P : Program} {ops : Array Oper} {md : Region.Mode} {Q : Exit → Act → World → Prop} {S : World → Prop} {z : Nat} {l : Array Bool} {a : Act} {w : World} (hr : Region.ready md ops l = []) (h : Q .normal a w) : ∀ fuel, wpAnyY P md ops (NoP Q) S z fuel l a w
  | 0 => ⟨hr, h⟩
  | _ + 1 => ⟨fun _ => h, by rw [hr]; simp⟩
theorem wpIn_region_Y {P : Program} {Q : Exit → Act → World → Prop} {l : Option Nat} {n : Nat} {id : Nat} {a : Act} {w : World} {S : World → Prop} {l' : List Oper} (z N : Nat) (hN : l'.length = N) (hm : P.follows .mixedOrders = true) (hQ : ¬ LetsOut Q) (hd : noDefer l'.toArray = true) (hS : S w.drew)
    (h : S w.drew → wpAnyY P .any l'.toArray (NoP Q) S z N (Array.replicate N false) a w.drew) : (Code.region id l'.toArray true).wpIn (WR l) n P Q a w :=
  Code.wpIn_mono NoP.imp (wpIn_region_round hm (NoP.lets hQ) hd (wpAny_of_Y _ _ _ _ (by subst hN; simpa using h hS)))
theorem wp_region_Y {P : Program} {Q : Exit → Act → World → Prop} {id : Nat} {a : Act} {w : World} {S : World → Prop} {l' : List Oper} (z N : Nat) (hN : l'.length = N) (hm : P.follows .mixedOrders = true) (hS : S w.drew)
    (h : S w.drew → wpAnyY P .any l'.toArray (NoP Q) S z N (Array.replicate N false) a w.drew) : (Code.region id l'.toArray true).wp P Q a w :=
  Code.wp_mono NoP.imp (wp_region_any hm (wpAny_of_Y _ _ _ _ (by subst hN; simpa using h hS)))
end Go.Proofs.YtnkmcoljijmgpaaGreat
set_option linter.unusedSimpArgs false
set_option linter.unusedVariables false
namespace Go.Proofs.YtnkmcoljijmgpaaGreat
open Go.RowKit Go.Shelf
attribute [local go_sem] Oper.semAt_some

theorem wide_fn (f : Nat) : Fence.wide.fn f = True := rfl
theorem wide_dep : Fence.wide.depth = none := rfl
theorem wideR_fn (l f : Nat) : (Fence.wide.inRound l).fn f = True := rfl
theorem wideR_dep (l : Nat) : (Fence.wide.inRound l).depth = none := rfl
attribute [local go_sem] wide_fn wide_dep wideR_fn wideR_dep ptV

structure Sp where
  x : Nat
  y : Nat
  more : Nat
instance : Inhabited Sp := ⟨⟨0, 0, 0⟩⟩
def spotCells (l : List Sp) : List Value := l.flatMap fun s => [.int .i64 s.x, .int .i64 s.y, .int .i64 s.more]
def oc (north cols : Int) (E : Value) (lofts : Int) (S : Value) (wrong : Int) (sum : Nat) (sl : Nat → Value) : Array Value :=
  #[.int .i64 north, .int .i64 cols, E, .int .i64 lofts, S, .int .i64 wrong, .int .i64 sum, sl 0, sl 1, sl 2, sl 3, sl 4, sl 5, sl 6, sl 7]
def upd {α : Type} (f : Nat → α) (k : Nat) (v : α) : Nat → α := fun j => if j = k then v else f j

theorem oc_get {north cols lofts wrong : Int} {E S : Value} {sum : Nat} {sl : Nat → Value} {k : Nat} (hk : k < 8) : (oc north cols E lofts S wrong sum sl)[7 + k]? = some (sl k) := by
  match k, hk with
  | 0, _ => rfl
  | 1, _ => rfl
  | 2, _ => rfl
  | 3, _ => rfl
  | 4, _ => rfl
  | 5, _ => rfl
  | 6, _ => rfl
  | 7, _ => rfl
theorem oc_set {north cols lofts wrong : Int} {E S : Value} {sum : Nat} {sl : Nat → Value} {k : Nat} (hk : k < 8) (v : Value) : (oc north cols E lofts S wrong sum sl).setIfInBounds (7 + k) v = oc north cols E lofts S wrong sum (upd sl k v) := by
  match k, hk with
  | 0, _ => rfl
  | 1, _ => rfl
  | 2, _ => rfl
  | 3, _ => rfl
  | 4, _ => rfl
  | 5, _ => rfl
  | 6, _ => rfl
  | 7, _ => rfl
theorem oc_sum {north cols lofts wrong : Int} {E S : Value} {sum : Nat} {sl : Nat → Value} (v : Nat) : (oc north cols E lofts S wrong sum sl).setIfInBounds 6 (.int .i64 v) = oc north cols E lofts S wrong v sl := rfl

section
variable (north : Int) (cols : Nat) (east : List Int) (svs : List Sv)
def cost (loft : Nat) (p : Nat × Nat) : Nat := wrongN north east svs loft p.1 p.2
def minC (init : Nat) (l : List Nat) : Nat := l.foldl min init
def lowC (loft : Nat) (pl : List (Nat × Nat)) : Nat := minC svs.length (pl.map (cost north east svs loft))
def rawSpots (loft : Nat) (pl : List (Nat × Nat)) : List Sp := pl.map fun p => ⟨p.1, p.2, cost north east svs loft p⟩
def spotsOf (loft : Nat) : List Sp := (allP cols east.length).map fun p => ⟨p.1, p.2, cost north east svs loft p - lowC north east svs loft (allP cols east.length)⟩
def fewSum (k : Nat) : Nat := ((List.range k).map fun j => lowC north east svs j (allP cols east.length)).sum
end

theorem lowC_snoc (north : Int) (east : List Int) (svs : List Sv) (loft : Nat) (l : List (Nat × Nat)) (p : Nat × Nat) : lowC north east svs loft (l ++ [p]) = min (lowC north east svs loft l) (cost north east svs loft p) := by
  simp [lowC, minC, List.foldl_append]

theorem foldl_min_le (l : List Nat) : ∀ (a : Nat), l.foldl min a ≤ a ∧ ∀ x ∈ l, l.foldl min a ≤ x := by
  induction l with
  | nil => intro a; simp
  | cons b l ih =>
    intro a
    have h := ih (min a b)
    simp only [List.foldl_cons]
    refine ⟨by have := h.1; omega, fun x hx => ?_⟩
    rcases List.mem_cons.1 hx with rfl | hx
    · have := h.1; omega
    · exact h.2 x hx
theorem lowC_le (north : Int) (east : List Int) (svs : List Sv) (k : Nat) (pl : List (Nat × Nat)) (hl2 : svs.length ≤ 16) : lowC north east svs k pl ≤ 16 := by
  have := (foldl_min_le (pl.map (cost north east svs k)) svs.length).1
  unfold lowC minC
  omega
theorem fewSum_le (north : Int) (cols : Nat) (east : List Int) (svs : List Sv) (k : Nat) (hl2 : svs.length ≤ 16) : fewSum north cols east svs k ≤ k * 16 := by
  induction k with
  | zero => simp [fewSum]
  | succ k ih =>
    have e : fewSum north cols east svs (k + 1) = fewSum north cols east svs k + lowC north east svs k (allP cols east.length) := by simp [fewSum, List.range_succ]
    have := lowC_le north east svs k (allP cols east.length) hl2
    omega
def subM (m : Nat) (s : Sp) : Sp := ⟨s.x, s.y, s.more - m⟩
theorem wrongN_le (north : Int) (east : List Int) (svs : List Sv) (loft x y : Int) : wrongN north east svs loft x y ≤ svs.length := List.length_filter_le _ _
theorem rawSpots_low (north : Int) (cols lofts : Nat) (east : List Int) (svs : List Sv) (k : Nat) (hl2 : svs.length ≤ 16) (pl : List (Nat × Nat)) : ∀ s ∈ rawSpots north east svs k pl, lowC north east svs k pl ≤ s.more ∧ s.more ≤ 16 := by
  intro s hs
  simp only [rawSpots, List.mem_map] at hs
  obtain ⟨p, hp, rfl⟩ := hs
  refine ⟨(foldl_min_le _ _).2 _ (List.mem_map.2 ⟨p, hp, rfl⟩), ?_⟩
  have := wrongN_le north east svs k p.1 p.2
  show wrongN north east svs k p.1 p.2 ≤ 16
  omega

theorem Fr.t2 {R R' : Nat → Prop} {A B C : World} (h : Fr R A B) (k : Fr R' B C) (hr : ∀ i, i < A.heap.size → R' i → R i) : Fr R A C :=
  ⟨k.os.trans h.os, k.tape.trans h.tape, k.output.trans h.output, Nat.le_trans h.size k.size, fun i hi hn => (k.block i (Nat.lt_of_lt_of_le hi h.size) (fun h' => hn (hr i hi h'))).trans (h.block i hi hn)⟩
def mixL (raw : List Sp) (m q : Nat) : List Sp := (raw.take q).map (subM m) ++ raw.drop q
theorem spotCells_app (A B : List Sp) : spotCells (A ++ B) = spotCells A ++ spotCells B := by simp [spotCells]
theorem spotCells_len (A : List Sp) : (spotCells A).length = A.length * 3 := by
  induction A with
  | nil => rfl
  | cons a A ih => simp only [spotCells, List.flatMap_cons, List.length_append, List.length_cons, List.length_nil] at ih ⊢; omega
theorem mixL_at (raw : List Sp) (m q : Nat) (h : q < raw.length) :
    (spotCells (mixL raw m q))[q * 3 + 2]? = some (.int .i64 (raw.getD q default).more) ∧
    (spotCells (mixL raw m q)).set (q * 3 + 2) (.int .i64 (((raw.getD q default).more - m : Nat) : Int)) = spotCells (mixL raw m (q + 1)) := by
  have e1 : raw.drop q = raw.getD q default :: raw.drop (q + 1) := by rw [List.drop_eq_getElem_cons h]; simp [h]
  have e2 : mixL raw m (q + 1) = (raw.take q).map (subM m) ++ subM m (raw.getD q default) :: raw.drop (q + 1) := by
    unfold mixL
    rw [List.take_succ_eq_append_getElem h, List.map_append, List.append_assoc]
    have e : raw.getD q default = raw[q] := by simp [h]
    rw [e]
    rfl
  have e3 : mixL raw m q = (raw.take q).map (subM m) ++ raw.getD q default :: raw.drop (q + 1) := by unfold mixL; rw [e1]
  have hl : (spotCells ((raw.take q).map (subM m))).length = q * 3 := by rw [spotCells_len, List.length_map, List.length_take]; omega
  have c : ∀ (s : Sp) (B : List Sp), spotCells (s :: B) = .int .i64 s.x :: .int .i64 s.y :: .int .i64 s.more :: spotCells B := fun s B => by simp [spotCells]
  rw [e2, e3, spotCells_app, spotCells_app, c, c]
  constructor
  · rw [List.getElem?_append_right (by omega), hl, show q * 3 + 2 - q * 3 = 2 by omega]; rfl
  · rw [List.set_append_right _ _ (by omega), hl, show q * 3 + 2 - q * 3 = 2 by omega]; rfl

theorem spotCells_at (l : List Sp) (i : Nat) (h : i < l.length) : (spotCells l)[i * 3]? = some (.int .i64 (l.getD i default).x) ∧ (spotCells l)[i * 3 + 1]? = some (.int .i64 (l.getD i default).y) ∧ (spotCells l)[i * 3 + 2]? = some (.int .i64 (l.getD i default).more) := by
  have e : l = l.take i ++ l.getD i default :: l.drop (i + 1) := by
    have e1 : l.drop i = l.getD i default :: l.drop (i + 1) := by rw [List.drop_eq_getElem_cons h]; simp [h]
    rw [← e1, List.take_append_drop]
  have c : ∀ (s : Sp) (B : List Sp), spotCells (s :: B) = .int .i64 s.x :: .int .i64 s.y :: .int .i64 s.more :: spotCells B := fun s B => by simp [spotCells]
  have hl : (spotCells (l.take i)).length = i * 3 := by rw [spotCells_len, List.length_take]; omega
  have e3 : spotCells l = spotCells (l.take i) ++ .int .i64 (l.getD i default).x :: .int .i64 (l.getD i default).y :: .int .i64 (l.getD i default).more :: spotCells (l.drop (i + 1)) := by
    rw [← c, ← spotCells_app, ← e]
  rw [e3]
  generalize l.getD i default = s
  refine ⟨?_, ?_, ?_⟩
  · rw [List.getElem?_append_right (by omega), hl, show i * 3 - i * 3 = 0 by omega]; rfl
  · rw [List.getElem?_append_right (by omega), hl, show i * 3 + 1 - i * 3 = 1 by omega]; rfl
  · rw [List.getElem?_append_right (by omega), hl, show i * 3 + 2 - i * 3 = 2 by omega]; rfl
/-- the mark of a range over a function among the deferred calls -/
abbrev markD (D : Nat) : Deferred := { target := .collected D, args := #[] }
def Marks (B : Nat) (Ds : List Nat) (w : World) : Prop := Ds.Nodup ∧ ∀ D, D ∈ Ds → B ≤ D ∧ w.heap[D]? = some (.deferred (some []))
theorem Marks.nil (B : Nat) (w : World) : Marks B [] w := ⟨List.nodup_nil, fun _ h => by cases h⟩

theorem leaves_marks {F : Fence} {n : Nat} {P : Program} {fn : Func} {tmps : Array Value} {R : Ending → World → Prop} {B : Nat} : ∀ (Ds : List Nat) (w : World), Marks B Ds w →
    (∀ w', Fr (fun i => i ∈ Ds) w w' → LeavesInM F n P fn tmps R [] .returning w') → LeavesInM F n P fn tmps R (Ds.map markD) .returning w
  | [], w, _, h => h w (Fr.rf _ _)
  | D :: Ds, w, hm, h => by
    have hD := hm.2 D List.mem_cons_self
    have hnd := List.nodup_cons.1 hm.1
    refine ⟨by simp, .inl ⟨D, _, rfl, run_takeDeferred hD.2, ?_⟩⟩
    have hf : Fr (fun i => i = D) w (w.putObj D (.deferred none)) := ⟨rfl, rfl, rfl, by simp [World.putObj], fun i _ hn => World.putObj_heap_other hn⟩
    refine leaves_marks (B := B) Ds _ ⟨hnd.2, fun D' h' => ⟨(hm.2 D' (List.mem_cons_of_mem _ h')).1, (hf.block D' (Array.getElem?_eq_some_iff.1 (hm.2 D' (List.mem_cons_of_mem _ h')).2).1 (fun e => hnd.1 (e ▸ h'))).trans (hm.2 D' (List.mem_cons_of_mem _ h')).2⟩⟩ (fun w' hw' => h w' ?_)
    exact (hf.mono (fun i _ e => by rw [e]; exact List.mem_cons_self)).t (hw'.mono (fun i _ e => List.mem_cons_of_mem _ e))
theorem Marks.ne {B : Nat} {Ds : List Nat} {w : World} (h : Marks B Ds w) {g : Nat} {t : TypeId} {cs : Array Value} (hb : Blk w g t cs) : ¬ g ∈ Ds := fun hm => by
  have h1 := (h.2 g hm).2
  rw [show w.heap[g]? = _ from hb] at h1; cases h1
theorem ownsRow_kept' {W W' : World} {base : Nat} {e : TypeId} {size : Nat} {v : Value} {k : Nat} {xs : List Value} {row : Option Nat} (h : W.ownsRow base e size v k xs) (hg : W.grownBy W' row)
    (hrow : ∀ r, row = some r → ∃ o : Obj, W.heap[r]? = some o ∧ o.isCells = false) : W'.ownsRow base e size v k xs := by
  refine h.kept hg ?_
  rcases h.2 with ⟨rfl, _⟩ | ⟨g, cap, cur, rfl, _, hgb, _⟩
  · exact .inl rfl
  · refine .inr fun e' => ?_
    obtain ⟨o, ho, hc⟩ := hrow g (by simpa [Value.ownBlock] using e'.symm)
    rw [hgb] at ho; cases ho; cases hc

theorem ownsRow_G {W W' : World} {base : Nat} {e : TypeId} {size : Nat} {v : Value} {k : Nat} {xs : List Value} (h : W.ownsRow base e size v k xs) (hg : G W W') : W'.ownsRow base e size v k xs :=
  ownsRow_kept' (row := none) h ⟨hg.os, hg.tape, hg.output, hg.size, fun i hi _ => hg.block i hi⟩ (fun _ e => by cases e)

theorem upd_upd {α : Type} (f : Nat → α) (k : Nat) (u v : α) : upd (upd f k u) k v = upd f k v := by
  funext j
  unfold upd
  split <;> rfl
theorem grownBy_set (W : World) (a : Addr) (v : Value) : W.grownBy (W.setCell a v) (some a.block) :=
  ⟨rfl, rfl, rfl, (KeepsWalks.setCell W _ v).size, fun k _ hk => Below.heap_setCell _ _ _ k (fun e => hk (by rw [e]))⟩
theorem Blk.dr {w : World} {g : Nat} {t : TypeId} {cs : Array Value} (h : Blk w g t cs) : Blk w.drew g t cs := h
theorem own_ne {W : World} {g : Nat} {t e : TypeId} {cs : Array Value} {base size k : Nat} {v : Value} {xs : List Value} (hr : W.ownsRow base e size v k xs) (h : Blk W g t cs) (hte : t ≠ e) : some g ≠ v.ownBlock := by
  rcases hr.2 with ⟨rfl, _⟩ | ⟨g', cap, cur, rfl, _, hgb, _⟩
  · simp [Value.ownBlock]
  · intro e'
    obtain rfl : g = g' := by simpa [Value.ownBlock] using e'
    have := (show W.heap[g]? = _ from h).symm.trans hgb
    simp at this
    exact hte this.2
theorem own_far {W : World} {g : Nat} {e : TypeId} {base size k : Nat} {v : Value} {xs : List Value} (hr : W.ownsRow base e size v k xs) (hg : W.heap.size ≤ g) : some g ≠ v.ownBlock := by
  rcases hr.2 with ⟨rfl, _⟩ | ⟨g', cap, cur, rfl, _, hgb, _⟩
  · simp [Value.ownBlock]
  · intro e'
    obtain rfl : g = g' := by simpa [Value.ownBlock] using e'
    have := (Array.getElem?_eq_some_iff.1 hgb).1
    omega
theorem own_base {W : World} {g : Nat} {e : TypeId} {base size k : Nat} {v : Value} {xs : List Value} (hr : W.ownsRow base e size v k xs) (hg : v.ownBlock = some g) : base ≤ g := by
  rcases hr.2 with ⟨rfl, _⟩ | ⟨g', cap, cur, rfl, hb, hgb, _⟩
  · simp [Value.ownBlock] at hg
  · obtain rfl : g' = g := by simpa [Value.ownBlock] using hg
    exact hb
theorem own_cells {W : World} {g : Nat} {e : TypeId} {base size k : Nat} {v : Value} {xs : List Value} (hr : W.ownsRow base e size v k xs) (hg : v.ownBlock = some g) : ∃ c t f, W.heap[g]? = some (.cells c t f) := by
  rcases hr.2 with ⟨rfl, _⟩ | ⟨g', cap, cur, rfl, hb, hgb, _⟩
  · simp [Value.ownBlock] at hg
  · obtain rfl : g' = g := by simpa [Value.ownBlock] using hg
    exact ⟨_, _, _, hgb⟩
end Go.Proofs.YtnkmcoljijmgpaaGreat
set_option linter.unusedSimpArgs false
set_option linter.unusedVariables false
namespace Go.Proofs.YtnkmcoljijmgpaaGreat
open Go.RowKit Go.Shelf
attribute [local go_sem] Oper.semAt_some wide_fn wide_dep

/-- ints at a block -/
def IntsIn (W : World) (g off : Nat) (ls : List Int) : Prop := ∀ k, k < ls.length → W.cell? ⟨g, off + k, none⟩ = some (.int .i64 (ls.getD k 0))
theorem IntsIn.kb {A W : World} {g off : Nat} {ls : List Int} (h : IntsIn A g off ls) (hk : KB g A W) : IntsIn W g off ls :=
  fun k hl => (World.cell?_of_block (a := ⟨g, off + k, none⟩) hk).trans (h k hl)

end Go.Proofs.YtnkmcoljijmgpaaGreat
set_option linter.unusedSimpArgs false
set_option linter.unusedVariables false
namespace Go.Proofs.YtnkmcoljijmgpaaGreat
open Go.RowKit Go.Shelf
attribute [local go_sem] Oper.semAt_some wide_fn wide_dep wideR_fn wideR_dep

section
variable {F : Fence} {n : Nat} {P : Program}
/-- a range over a function whose one loop variable is a slot: tb -/
theorem rangeFunc_var {α : Type} {g : Operand} {tv : Tmp} {assign body : Code} {Q : Exit → Act → World → Prop} {a : Act} {w : World}
    (hro : F.round = none) (h1 : 1 ≤ n) {gf : Nat} {lb : Array Value} (hg : a.eval g = .func (.func gf) #[] lb) (hFg : F.fn gf) (eg : ∀ args w, (callFunc gf args).run P w = .ok (.enter gf args) w)
    {ev : α → Value} {B : Nat} {S Sp : List α → Prop} {N : Nat} {w0 : World} (hseq : SeqStopsK F (n - 1) P gf lb (fun x => #[ev x]) (KB B) S Sp N w0)
    (hB : B < w.heap.size) (hb0 : Below w0.heap.size w0 w)
    (I : List α → World → Prop) (Ix : Code → List α → World → Prop) (hI : OwnFrom w.heap.size I) (hIx : ∀ c, OwnFrom w.heap.size (Ix c)) (h0 : I [] w)
    (tb : Tmp)
    (hassign : ∀ (l : Nat) (x : α) (W : World) (K : Act → World → Prop), K { tmps := (a.tmps.setIfInBounds tv (ev x)).setIfInBounds tb (ev x), defers := [] } W →
      assign.wpIn (F.inRound l) (n - 1 - 1) P (Exit.then K (fun _ _ _ => False)) { tmps := a.tmps.setIfInBounds tv (ev x), defers := [] } W)
    (hbody : ∀ (l : Nat) (pre : List α) (x : α) (W : World), w.heap.size ≤ l → (∃ r, W.heap[l]? = some (.loop r)) → I pre W → pre.length < N →
      body.wpIn (F.inRound l) (n - 1 - 1) P (ownPostG w.heap.size (KB B) I Ix (pre ++ [x]) W) { tmps := (a.tmps.setIfInBounds tv (ev x)).setIfInBounds tb (ev x), defers := [] } W)
    (hdone : ∀ (D : Nat) (xs : List α) (W : World), w.heap.size ≤ D → S xs → I xs W → W.heap[D]? = some (.deferred (some [])) → Q .normal { a with defers := { target := .collected D, args := #[] } :: a.defers } W)
    (hstop : ∀ (D : Nat) (c : Code) (pre : List α) (W : World), w.heap.size ≤ D → Sp pre → Ix c pre W → W.heap[D]? = some (.deferred (some [])) → c.wpIn F n P Q { a with defers := { target := .collected D, args := #[] } :: a.defers } W) :
    (Code.rangeFunc g #[tv] assign body).wpIn F n P Q a w := by
  refine wpIn_rangeFunc_ownH hro h1 hg hFg eg hseq (fun h k => KB.t h k) (KB.b hB) hb0 (fun _ => rfl) I Ix hI hIx h0
    (fun x a' _ => a' = { tmps := (a.tmps.setIfInBounds tv (ev x)).setIfInBounds tb (ev x), defers := [] })
    ?_ ?_ ?_ hdone hstop
  · rintro x a' _ X Y row h _ _
    exact h
  · intro l pre x W K hi hK
    have e : ((#[tv] : Array Tmp).zip #[ev x]).foldl (fun t (p, v) => t.setIfInBounds p v) a.tmps = a.tmps.setIfInBounds tv (ev x) := by simp
    rw [e]
    exact hassign l x W K (hK _ _ ((KeepsOthers.refl W).from _) (KB.rf _ _) hi rfl)
  · rintro l pre x a' W hl hr hi rfl hN
    exact hbody l pre x W hl hr hi hN
end

theorem own_weaken {W : World} {base base' : Nat} {e : TypeId} {size k : Nat} {v : Value} {xs : List Value} (h : W.ownsRow base e size v k xs) (hb : base' ≤ base) : W.ownsRow base' e size v k xs := by
  refine ⟨h.1, ?_⟩
  rcases h.2 with h' | ⟨g, cap, cur, h1, h2, h3⟩
  · exact .inl h'
  · exact .inr ⟨g, cap, cur, h1, Nat.le_trans hb h2, h3⟩
theorem cell_one_new (w : World) (t : TypeId) (v : Value) : ∀ j u, [v][j]? = some u → (w.alloc (.cells #[v] t)).cell? ((⟨w.heap.size, 0, none⟩ : Addr).add j) = some u :=
  World.news_of_block (cs := #[v]) (t := t) (fr := (0, 0)) (heap_alloc_new w _)
def ApInv (w : World) (pre : List Int) (W : World) : Prop :=
  ∃ v, Blk W w.heap.size 24 #[v] ∧ W.ownsRow (w.heap.size + 1) 3 1 v pre.length (pre.map (Value.int .i64)) ∧ G w W ∧ w.heap.size + 1 ≤ W.heap.size
theorem apInv_own (w : World) (B : Nat) (hB : w.heap.size + 1 ≤ B) : OwnFrom B (ApInv w) := by
  rintro pre X Y row ⟨v, b1, hr, hG, hs⟩ hg hrow
  have hn : some w.heap.size ≠ row := fun e => by
    obtain ⟨_, o, ho, hc⟩ := hrow _ e.symm
    rw [show X.heap[w.heap.size]? = _ from b1] at ho; cases ho; cases hc
  exact ⟨v, b1.grown hg hn, ownsRow_kept' hr hg (fun r e => (hrow r e).2), (((G.fr (R := fun _ => False) hG).grown hg (fun g e => .inr (by have := (hrow g e).1; omega)))).toG (fun _ _ h => h), Nat.le_trans hs hg.size⟩

theorem info3 : (Tryz.prog.info? 3).map (fun i => (i.zero, i.size, i.bytes)) = some (some (.int .i64 0), 1, 8) := by kernel_rfl

end Go.Proofs.YtnkmcoljijmgpaaGreat
set_option linter.unusedSimpArgs false
set_option linter.unusedVariables false
namespace Go.Proofs.YtnkmcoljijmgpaaGreat
open Go.RowKit Go.Shelf

/-- what an iterator does by itself: it may lay blocks, and write those cells of its own (from B on) that are of a type in T -/
structure Kt (T : TypeId → Prop) (B : Nat) (X Y : World) : Prop where
  os : Y.os = X.os
  tape : Y.tape = X.tape
  output : Y.output = X.output
  size : X.heap.size ≤ Y.heap.size
  block : ∀ i o, X.heap[i]? = some o → (i < B ∨ ∀ c t f, o = .cells c t f → ¬ T t) → Y.heap[i]? = some o
section
variable {T : TypeId → Prop} {B : Nat} {X Y Z : World}
theorem Kt.rf (T : TypeId → Prop) (B : Nat) (X : World) : Kt T B X X := ⟨rfl, rfl, rfl, Nat.le_refl _, fun _ _ h _ => h⟩
theorem Kt.t (h : Kt T B X Y) (k : Kt T B Y Z) : Kt T B X Z := ⟨k.os.trans h.os, k.tape.trans h.tape, k.output.trans h.output, Nat.le_trans h.size k.size, fun i o hi hc => k.block i o (h.block i o hi hc) hc⟩
theorem G.kt (h : G X Y) : Kt T B X Y := ⟨h.os, h.tape, h.output, h.size, fun i o hi _ => (h.block i (Array.getElem?_eq_some_iff.1 hi).1).trans hi⟩
theorem Kt.blk {g : Nat} {t : TypeId} {cs : Array Value} (h : Kt T B X Y) (b : Blk X g t cs) (hb : g < B ∨ ¬ T t) : Blk Y g t cs :=
  h.block g _ b (hb.elim .inl (fun ht => .inr (fun c t' f e => by cases e; exact ht)))
/-- a store into a block of the iterator's own -/
theorem Kt.set {g i : Nat} {t : TypeId} {cs : Array Value} (b : Blk X g t cs) (hB : B ≤ g) (hT : T t) (v : Value) : Kt T B X (X.setCell ⟨g, i, none⟩ v) :=
  ⟨rfl, rfl, rfl, by simp [World.setCell], fun k o hk hc => (Below.heap_setCell X _ v k (fun e => by
    have e' : k = g := e
    rw [e', show X.heap[g]? = _ from b] at hk
    cases hk
    rcases hc with h | h
    · omega
    · exact h _ _ _ rfl hT)).trans hk⟩
end
def StableT {β : Type} (T : TypeId → Prop) (B : Nat) (J : β → World → Prop) : Prop := ∀ s X Y, J s X → Kt T B X Y → J s Y

/-- the contract of an iterator that writes cells of its own -/
def SeqT {α : Type} (T : TypeId → Prop) (F : Fence) (n : Nat) (P : Program) (g : Nat) (lb : Array Value) (ev : α → Value) (Kp : World → World → Prop) (S Sp : List α → Prop) (N : Nat) (w : World) : Prop :=
  ∀ (l : Nat) (J Jx : List α → World → Prop) (W : World), G w W → StableT T W.heap.size J → StableT T W.heap.size Jx →
    (∀ pre x W1, J pre W1 → pre.length < N → YieldAt F (n - 1) P l #[ev x] W1 fun e W' => (e = .returned (.bool true) ∧ J (pre ++ [x]) W' ∧ Kp W1 W') ∨ (e = .returned (.bool false) ∧ Jx (pre ++ [x]) W')) →
    J [] W → CallsIn F n P g (#[.func (.yield l) #[] #[]] ++ lb) W fun e W' => (∃ v, e = .returned v) ∧ ((∃ xs, S xs ∧ J xs W') ∨ (∃ pre, Sp pre ∧ Jx pre W'))

/-- the loop's record and the block for the rounds' deferred calls -/
def Bk (l D : Nat) (r : Loop) (W : World) : Prop := W.heap[l]? = some (.loop r) ∧ W.heap[D]? = some (.deferred (some []))
section
variable {l D B : Nat} {r r' : Loop} {X Y : World} {T : TypeId → Prop}
theorem Bk.kt (h : Bk l D r X) (k : Kt T B X Y) : Bk l D r Y := ⟨k.block _ _ h.1 (.inr (fun _ _ _ e => by cases e)), k.block _ _ h.2 (.inr (fun _ _ _ e => by cases e))⟩
theorem Bk.keeps (h : Bk l D r X) (k : KeepsFrom B X Y) (hl : B ≤ l) (hD : B ≤ D) : Bk l D r Y := ⟨k.same _ _ hl h.1 rfl, k.same _ _ hD h.2 rfl⟩
theorem Bk.put (h : Bk l D r X) (hn : D ≠ l) (r' : Loop) : Bk l D r' (X.putObj l (.loop r')) := ⟨World.putObj_heap_same (Array.getElem?_eq_some_iff.1 h.1).1, (World.putObj_heap_other hn).trans h.2⟩
end

section
variable {F : Fence} {n : Nat} {P : Program}
/-- a range over a function that writes cells of its own; the loop variable is boxed, its box's address is in slot tb -/
theorem rangeFunc_T {α : Type} {T : TypeId → Prop} {g : Operand} {tv : Tmp} {assign body : Code} {Q : Exit → Act → World → Prop} {a : Act} {w : World}
    (hro : F.round = none) (h1 : 1 ≤ n) {gf : Nat} {lb : Array Value} (hg : a.eval g = .func (.func gf) #[] lb) (hFg : F.fn gf) (eg : ∀ args w, (callFunc gf args).run P w = .ok (.enter gf args) w)
    {ev : α → Value} {Kp : World → World → Prop} {S Sp : List α → Prop} {N : Nat} {w0 : World} (hseq : SeqT T F (n - 1) P gf lb ev Kp S Sp N w0) (hb0 : G w0 w)
    (hKt : ∀ {A B C : World}, Kp A B → Kp B C → Kp A C) (hKb : ∀ (W : World) (l : Nat) (o o' : Obj), w.heap.size ≤ l → W.heap[l]? = some o → o.isCells = false → Kp W (W.putObj l o')) (hKa : ∀ W o, Kp W (W.alloc o))
    (I : List α → World → Prop) (Ix : Code → List α → World → Prop) (hI : OwnFrom w.heap.size I) (hIx : ∀ c, OwnFrom w.heap.size (Ix c)) (hIT : ∀ B, w.heap.size ≤ B → StableT T B I) (hIxT : ∀ c B, w.heap.size ≤ B → StableT T B (Ix c)) (h0 : I [] w)
    (tb : Tmp) (tt : TypeId) (bx : α → Array Value)
    (hassign : ∀ (l : Nat) (x : α) (W : World) (K : Act → World → Prop), K { tmps := (a.tmps.setIfInBounds tv (ev x)).setIfInBounds tb (.pointer (some ⟨W.heap.size, 0, none⟩)), defers := [] } (W.alloc (.cells (bx x) tt)) →
      assign.wpIn (F.inRound l) (n - 1 - 1) P (Exit.then K (fun _ _ _ => False)) { tmps := a.tmps.setIfInBounds tv (ev x), defers := [] } W)
    (hbody : ∀ (l : Nat) (pre : List α) (x : α) (Bp : Nat) (W : World), I pre W → w.heap.size ≤ Bp → Blk W Bp tt (bx x) → pre.length < N →
      body.wpIn (F.inRound l) (n - 1 - 1) P (ownPostG w.heap.size Kp I Ix (pre ++ [x]) W) { tmps := (a.tmps.setIfInBounds tv (ev x)).setIfInBounds tb (.pointer (some ⟨Bp, 0, none⟩)), defers := [] } W)
    (hdone : ∀ (D : Nat) (xs : List α) (W : World), w.heap.size ≤ D → S xs → I xs W → W.heap[D]? = some (.deferred (some [])) → Q .normal { a with defers := { target := .collected D, args := #[] } :: a.defers } W)
    (hstop : ∀ (D : Nat) (c : Code) (pre : List α) (W : World), w.heap.size ≤ D → Sp pre → Ix c pre W → W.heap[D]? = some (.deferred (some [])) → c.wpIn F n P Q { a with defers := { target := .collected D, args := #[] } :: a.defers } W) :
    (Code.rangeFunc g #[tv] assign body).wpIn F n P Q a w := by
  refine wpIn_rangeFunc (fun fn hfn => ?_)
  rw [hro]
  obtain ⟨D, hD⟩ : ∃ D, D = w.heap.size := ⟨_, rfl⟩
  obtain ⟨rc, hrc⟩ : ∃ rc : LoopState → Option Code → Loop, ∀ s c, rc s c = { state := s, pending := c, fn := fn, tmps := a.tmps, params := #[tv], assign := assign, body := body, defers := D } := ⟨fun s c => _, fun _ _ => rfl⟩
  have hent := run_enterLoop_outer (P := P) (w := w) fn a.tmps #[tv] assign body
  rw [← hD, ← hrc] at hent
  have hG1 : G w ((w.alloc (.deferred (some []))).alloc (.loop (rc .ready none))) := ((G.rf w).a _).a _
  have hB1 : Bk (D + 1) D (rc .ready none) ((w.alloc (.deferred (some []))).alloc (.loop (rc .ready none))) := by
    subst hD
    refine ⟨?_, (Below.heap_alloc _ _ _ (by simp)).trans (World.alloc_heap_new w _)⟩
    have := World.alloc_heap_new (w.alloc (.deferred (some []))) (.loop (rc .ready none))
    rwa [World.size_alloc] at this
  have hI1 : I [] ((w.alloc (.deferred (some []))).alloc (.loop (rc .ready none))) := hI.alloc _ (hI.alloc _ h0)
  generalize (w.alloc (.deferred (some []))).alloc (.loop (rc .ready none)) = W1 at *
  refine ⟨D + 1, [{ target := .collected D, args := #[] }], W1, { target := .fn (.func gf) lb, args := #[.func (.yield (D + 1)) #[] #[]] }, W1, gf, #[.func (.yield (D + 1)) #[] #[]] ++ lb, W1, hent, ?_, ?_, ?_, fun _ => h1, ?_⟩
  · simp only [resolve, hg]; simp [go_sem]
  · intro f' hf'; simp [Target.leads] at hf'; subst hf'; exact hFg
  · simp [invoke, go_sem, eg]
  refine (hseq (D + 1) (fun pre W => I pre W ∧ Bk (D + 1) D (rc .ready none) W) (fun pre W => ∃ c, Ix c pre W ∧ Bk (D + 1) D (rc .done (some c)) W) W1 (hb0.t hG1)
    (fun s A C h k => ⟨hIT _ hG1.size s A C h.1 k, h.2.kt k⟩) (fun s A C ⟨c, h, hb⟩ k => ⟨c, hIxT c _ hG1.size s A C h k, hb.kt k⟩) ?_ ⟨hI1, hB1⟩).mono ?_
  · rintro pre x W ⟨hi, hb⟩ hlen
    have hy := run_yield (P := P) (args := #[ev x]) hb.1 (by rw [hrc]; rfl)
    rw [hrc] at hy
    refine ⟨fn, _, assign, body, hy, roundIn_of_wpIn hfn ?_⟩
    have e : ((#[tv] : Array Tmp).zip #[ev x]).foldl (fun t (p, v) => t.setIfInBounds p v) a.tmps = a.tmps.setIfInBounds tv (ev x) := by simp
    rw [e]
    refine hassign _ x W _ ?_
    have hlt : D + 1 < W.heap.size := (Array.getElem?_eq_some_iff.1 hb.1).1
    have hbA : Bk (D + 1) D (rc .ready none) (W.alloc (.cells (bx x) tt)) := hb.kt (T := fun _ => False) (B := 0) (G.kt ((G.rf W).a _))
    refine ⟨_, run_beginRound hbA.1 (by rw [hrc]), ?_⟩
    have hbB := hbA.put (by omega) { rc .ready none with state := .busy }
    have hxB : Blk ((W.alloc (.cells (bx x) tt)).putObj (D + 1) (.loop { rc .ready none with state := .busy })) W.heap.size tt (bx x) := (World.putObj_heap_other (by omega)).trans (Blk.new W tt (bx x))
    have hKB : Kp W ((W.alloc (.cells (bx x) tt)).putObj (D + 1) (.loop { rc .ready none with state := .busy })) := hKt (hKa W _) (hKb _ _ _ _ (by omega) hbA.1 rfl)
    have hIB := hI.putObj (.loop { rc .ready none with state := .busy }) (hI.alloc (.cells (bx x) tt) hi) (by omega) hbA.1 rfl
    refine wpIn_mono (hbody _ pre x _ _ hIB (by omega) hxB hlen) ?_
    have fin : ∀ (j : Option Code) (W3 : World), KeepsFrom w.heap.size ((W.alloc (.cells (bx x) tt)).putObj (D + 1) (.loop { rc .ready none with state := .busy })) W3 →
        (Instr.endRound (D + 1) j).run P W3 = .ok (.bool j.isNone) (W3.putObj (D + 1) (.loop (rc (if j.isNone then .ready else .done) j))) ∧ W3.heap[D + 1]? = some (.loop { rc .ready none with state := .busy }) ∧ Bk (D + 1) D (rc (if j.isNone then .ready else .done) j) (W3.putObj (D + 1) (.loop (rc (if j.isNone then .ready else .done) j))) := fun j W3 hk => by
      have hb3 := hbB.keeps hk (by omega) (by omega)
      have h := run_endRound (P := P) j hb3.1
      refine ⟨?_, hb3.1, hb3.put (by omega) _⟩
      rw [hrc] at h ⊢
      exact h
    rintro e a3 W3 hp
    cases e with
    | normal =>
      obtain ⟨hk, hkp, hi3⟩ := hp
      obtain ⟨hr, hl3, hb3⟩ := fin none W3 hk
      exact ⟨_, _, hr, .inl ⟨rfl, ⟨hI.putObj _ hi3 (by omega) hl3 rfl, hb3⟩, hKt hKB (hKt hkp (hKb _ _ _ _ (by omega) hl3 rfl))⟩⟩
    | ret =>
      obtain ⟨hk, hi3⟩ := hp
      obtain ⟨hr, hl3, hb3⟩ := fin (some .ret) W3 hk
      exact ⟨_, _, hr, .inr ⟨rfl, .ret, (hIx _).putObj _ hi3 (by omega) hl3 rfl, hb3⟩⟩
    | exit id =>
      obtain ⟨hk, hi3⟩ := hp
      obtain ⟨hr, hl3, hb3⟩ := fin (some (.exit id)) W3 hk
      exact ⟨_, _, hr, .inr ⟨rfl, .exit id, (hIx _).putObj _ hi3 (by omega) hl3 rfl, hb3⟩⟩
    | goto t =>
      obtain ⟨hk, hi3⟩ := hp
      obtain ⟨hr, hl3, hb3⟩ := fin (some (.goto t)) W3 hk
      exact ⟨_, _, hr, .inr ⟨rfl, .goto t, (hIx _).putObj _ hi3 (by omega) hl3 rfl, hb3⟩⟩
    | panic ch => exact hp.elim
    | outgrown => exact hp.elim
  · rintro e W2 ⟨⟨v, rfl⟩, (⟨xs, hS, hi, hb⟩ | ⟨pre, hSp, c, hi, hb⟩)⟩
    · have h := run_endLoop (P := P) hb.1 (by rw [hrc]; simp)
      rw [hrc] at h
      exact ⟨none, _, h, hdone _ xs _ (by omega) hS (hI.putObj _ hi (by omega) hb.1 rfl) ((World.putObj_heap_other (by omega)).trans hb.2)⟩
    · have h := run_endLoop (P := P) hb.1 (by rw [hrc]; simp)
      rw [hrc] at h
      exact ⟨some c, _, h, hstop _ c pre _ (by omega) hSp ((hIx c).putObj _ hi (by omega) hb.1 rfl) ((World.putObj_heap_other (by omega)).trans hb.2)⟩
end
end Go.Proofs.YtnkmcoljijmgpaaGreat
set_option linter.unusedSimpArgs false
set_option linter.unusedVariables false
namespace Go.Proofs.YtnkmcoljijmgpaaGreat
open Go.RowKit

end Go.Proofs.YtnkmcoljijmgpaaGreat
set_option linter.unusedSimpArgs false
set_option linter.unusedVariables false
namespace Go.Proofs.YtnkmcoljijmgpaaGreat
open Go.RowKit

/-- the ways with one more loft, of whose spots l are counted -/
def pw (sp : Int) (l : List Nat) (f : Nat → Nat) (t : Nat) : Nat := if (t : Int) ≤ sp then (l.map fun m => if m ≤ t then f (t - m) else 0).sum else 0
def ways (sp : Int) (rows : Nat → List Sp) : Nat → Nat → Nat
  | 0 => fun t => if t = 0 then 1 else 0
  | k + 1 => pw sp ((rows k).map Sp.more) (ways sp rows k)
def manyN (sp : Int) (rows : Nat → List Sp) (k : Nat) : Nat := ways sp rows k 0 + ways sp rows k 1 + ways sp rows k 2 + ways sp rows k 3
def wc (f : Nat → Nat) : Array Value := #[.int .i64 (f 0), .int .i64 (f 1), .int .i64 (f 2), .int .i64 (f 3)]
theorem wc_get (f : Nat → Nat) {t : Nat} (h : t < 4) : (wc f)[t]? = some (.int .i64 (f t)) := by
  match t, h with
  | 0, _ => rfl
  | 1, _ => rfl
  | 2, _ => rfl
  | 3, _ => rfl
theorem wc_set (f : Nat → Nat) {t : Nat} (h : t < 4) (v : Nat) : (wc f).setIfInBounds t (.int .i64 v) = wc (upd f t v) := by
  match t, h with
  | 0, _ => rfl
  | 1, _ => rfl
  | 2, _ => rfl
  | 3, _ => rfl
theorem sum_le_mul (f : Nat → Nat) (B : Nat) (t : Nat) (hf : ∀ t, f t ≤ B) : ∀ (l : List Nat), (l.map fun m => if m ≤ t then f (t - m) else 0).sum ≤ l.length * B
  | [] => by simp
  | m :: l => by
    have h1 := sum_le_mul f B t hf l
    have h2 : (if m ≤ t then f (t - m) else 0) ≤ B := by split <;> simp [hf]
    simp only [List.map_cons, List.sum_cons, List.length_cons, Nat.add_mul, Nat.one_mul]
    omega
theorem pw_nil (sp : Int) (f : Nat → Nat) : pw sp [] f = fun _ => 0 := by
  funext t; unfold pw; split <;> rfl
theorem pw_le (sp : Int) (f : Nat → Nat) (B : Nat) (hf : ∀ t, f t ≤ B) (l : List Nat) (t : Nat) : pw sp l f t ≤ l.length * B := by
  unfold pw
  split
  · exact sum_le_mul f B t hf l
  · exact Nat.zero_le _
theorem ways_le (sp : Int) (rows : Nat → List Sp) : ∀ (k : Nat), (∀ j, j < k → (rows j).length ≤ 100) → ∀ t, ways sp rows k t ≤ 100 ^ k
  | 0, _, t => by unfold ways; split <;> simp
  | k + 1, h, t => by
    have h1 := ways_le sp rows k (fun j hj => h j (by omega))
    have h2 := pw_le sp (ways sp rows k) (100 ^ k) h1 ((rows k).map Sp.more) t
    have h3 := h k (by omega)
    simp only [List.length_map] at h2
    have h4 : (rows k).length * 100 ^ k ≤ 100 * 100 ^ k := Nat.mul_le_mul_right _ h3
    unfold ways
    rw [Nat.pow_succ]
    omega
/-- .. and of the spot m the ways to numbers below t -/
def pp (g f : Nat → Nat) (m t : Nat) (t' : Nat) : Nat := g t' + if m ≤ t' ∧ t' < t then f (t' - m) else 0
theorem pp_start (g f : Nat → Nat) (m : Nat) : pp g f m m = g := by
  funext t'; unfold pp; rw [if_neg (by omega)]; rfl
theorem pp_step (g f : Nat → Nat) (m t : Nat) (h : m ≤ t) : upd (pp g f m t) t (pp g f m t t + f (t - m)) = pp g f m (t + 1) := by
  funext t'
  unfold upd pp
  by_cases e : t' = t
  · subst e
    rw [if_pos rfl, if_neg (by omega), if_pos (by omega)]; omega
  · rw [if_neg e]
    by_cases h2 : m ≤ t' ∧ t' < t
    · rw [if_pos h2, if_pos (by omega)]
    · rw [if_neg h2, if_neg (by omega)]
theorem pp_end (sp : Int) (f : Nat → Nat) (l : List Nat) (m t : Nat) (h1 : m ≤ t) (h2 : t = m ∨ (t : Int) ≤ sp + 1) (h3 : ¬ (t : Int) ≤ sp) : pp (pw sp l f) f m t = pw sp (l ++ [m]) f := by
  funext t'
  unfold pp pw
  by_cases h4 : (t' : Int) ≤ sp
  · rw [if_pos h4, if_pos h4]
    simp only [List.map_append, List.sum_append, List.map_cons, List.map_nil, List.sum_cons, List.sum_nil]
    by_cases h5 : m ≤ t'
    · rw [if_pos ⟨h5, by omega⟩, if_pos h5]; omega
    · rw [if_neg (by omega), if_neg h5]; omega
  · rw [if_neg h4, if_neg h4, if_neg (by omega)]
theorem pp_le (g f : Nat → Nat) (m t B C : Nat) (hg : ∀ t, g t ≤ C) (hf : ∀ t, f t ≤ B) (t' : Nat) : pp g f m t t' ≤ C + B := by
  unfold pp
  have := hg t'
  split
  · have := hf (t' - m); omega
  · omega

def tot (f : Nat → Nat) : Nat → Nat
  | 0 => 0
  | j + 1 => tot f j + f j
theorem tot_le (f : Nat → Nat) (B : Nat) (hf : ∀ t, f t ≤ B) : ∀ j, tot f j ≤ j * B
  | 0 => Nat.zero_le _
  | j + 1 => by
    have h1 := tot_le f B hf j
    have h2 := hf j
    rw [Nat.add_mul, Nat.one_mul]
    unfold tot
    omega
end Go.Proofs.YtnkmcoljijmgpaaGreat
set_option linter.unusedSimpArgs false
set_option linter.unusedVariables false
namespace Go.Proofs.YtnkmcoljijmgpaaGreat
open Go.RowKit

theorem checkE_zero {north cols lofts wrong : Int} {east : List Int} {svs : List Sv} (h : checkE north cols east lofts svs wrong = 0) : validMapB north cols east lofts wrong = true ∧ svs.length ≤ 16 ∧ svs.all (svOk cols east.length lofts) = true := by
  have hv := checkE_ok h
  unfold checkE at h
  rw [hv] at h
  simp only [Bool.true_eq_false, if_false] at h
  by_cases h1 : svs.length > 16
  · rw [if_pos h1] at h; omega
  · rw [if_neg h1] at h
    refine ⟨hv, by omega, ?_⟩
    cases h2 : svs.all (svOk cols east.length lofts)
    · rw [h2] at h; simp at h
    · rfl
/-- the number of the truths -/
def manyV (north wrong : Int) (cols lofts : Nat) (east : List Int) (svs : List Sv) : Nat := manyN (wrong - (fewSum north cols east svs lofts : Int)) (spotsOf north cols east svs) lofts

theorem spotsOf_len (north : Int) (cols : Nat) (east : List Int) (svs : List Sv) (j : Nat) (hc : cols ≤ 10) (hr : east.length ≤ 10) : (spotsOf north cols east svs j).length ≤ 100 := by
  simp only [spotsOf, List.length_map, allP_len]
  exact Nat.mul_le_mul hr hc

end Go.Proofs.YtnkmcoljijmgpaaGreat
set_option linter.unusedSimpArgs false
set_option linter.unusedVariables false
namespace Go.Proofs.YtnkmcoljijmgpaaGreat
open Go.RowKit

end Go.Proofs.YtnkmcoljijmgpaaGreat
set_option linter.unusedSimpArgs false
set_option linter.unusedVariables false
namespace Go.Proofs.YtnkmcoljijmgpaaGreat
open Go.RowKit Go.Shelf
attribute [local go_sem] Oper.semAt_some wide_fn wide_dep wideR_fn wideR_dep

abbrev At := Nat → Nat × Nat
def pc (f : At) : Array Value := #[.int .i64 (f 0).1, .int .i64 (f 0).2, .int .i64 (f 1).1, .int .i64 (f 1).2, .int .i64 (f 2).1, .int .i64 (f 2).2, .int .i64 (f 3).1, .int .i64 (f 3).2,
  .int .i64 (f 4).1, .int .i64 (f 4).2, .int .i64 (f 5).1, .int .i64 (f 5).2, .int .i64 (f 6).1, .int .i64 (f 6).2, .int .i64 (f 7).1, .int .i64 (f 7).2]
theorem pc_set (f : At) {l : Nat} (h : l < 8) (x y : Nat) : ((pc f).setIfInBounds (l * 2) (.int .i64 x)).setIfInBounds (l * 2 + 1) (.int .i64 y) = pc (upd f l (x, y)) := by
  match l, h with
  | 0, _ => rfl
  | 1, _ => rfl
  | 2, _ => rfl
  | 3, _ => rfl
  | 4, _ => rfl
  | 5, _ => rfl
  | 6, _ => rfl
  | 7, _ => rfl
theorem pc_get (f : At) {l : Nat} (h : l < 8) : (pc f)[l * 2]? = some (.int .i64 (f l).1) ∧ (pc f)[l * 2 + 1]? = some (.int .i64 (f l).2) := by
  match l, h with
  | 0, _ => exact ⟨rfl, rfl⟩
  | 1, _ => exact ⟨rfl, rfl⟩
  | 2, _ => exact ⟨rfl, rfl⟩
  | 3, _ => exact ⟨rfl, rfl⟩
  | 4, _ => exact ⟨rfl, rfl⟩
  | 5, _ => exact ⟨rfl, rfl⟩
  | 6, _ => exact ⟨rfl, rfl⟩
  | 7, _ => exact ⟨rfl, rfl⟩

/-- the places that some lofts have together, in the order in which they come -/
def settleL (rows : Nat → List Sp) : List Nat → At → Int → List At
  | [], f, _ => [f]
  | l :: ls, f, sp => (rows l).flatMap fun s => if (s.more : Int) ≤ sp then settleL rows ls (upd f l (s.x, s.y)) (sp - s.more) else []

/-- every block of cells but those of R lies as it lay -/
structure KC (R : Nat → TypeId → Prop) (W W' : World) : Prop where
  size : W.heap.size ≤ W'.heap.size
  block : ∀ i c t f, W.heap[i]? = some (.cells c t f) → ¬ R i t → W'.heap[i]? = some (.cells c t f)
section
variable {R : Nat → TypeId → Prop} {A B C : World}
theorem KC.rf (R : Nat → TypeId → Prop) (A : World) : KC R A A := ⟨Nat.le_refl _, fun _ _ _ _ h _ => h⟩
theorem KC.t (h : KC R A B) (k : KC R B C) : KC R A C := ⟨Nat.le_trans h.size k.size, fun i c t f hi hn => k.block i c t f (h.block i c t f hi hn) hn⟩
theorem G.kc (h : G A B) : KC R A B := ⟨h.size, fun i _ _ _ hi _ => (h.block i (Array.getElem?_eq_some_iff.1 hi).1).trans hi⟩
theorem KC.blk {g : Nat} {t : TypeId} {cs : Array Value} (h : KC R A B) (b : Blk A g t cs) (hn : ¬ R g t) : Blk B g t cs := h.block _ _ _ _ b hn
/-- .. a store beyond what lay in A -/
theorem KC.s (h : KC R A B) {p : Addr} (hp : A.heap.size ≤ p.block) (v : Value) : KC R A (B.setCell p v) :=
  ⟨by have := h.size; simpa [World.setCell] using this, fun i c t f hi hn => (Below.heap_setCell B p v i (by
    rintro rfl
    have := (Array.getElem?_eq_some_iff.1 hi).1
    omega)).trans (h.block i c t f hi hn)⟩
end
section
variable {O g : Nat} {gc oc0 : Array Value} {lofts : Nat} {slv : Nat → Value} {rows : Nat → List Sp} {W W' : World}
end

end Go.Proofs.YtnkmcoljijmgpaaGreat
set_option linter.unusedSimpArgs false
set_option linter.unusedVariables false
namespace Go.Proofs.YtnkmcoljijmgpaaGreat
open Go.RowKit Go.Shelf
attribute [local go_sem] Oper.semAt_some wide_fn wide_dep wideR_fn wideR_dep

section
variable {P : Program} {ops : Array Oper} {md : Region.Mode} {Q : Exit → Act → World → Prop} {S : World → Prop} {z : Nat}
theorem wpAnyY_oneW {i : Nat} {o : Oper} {fuel : Nat} {l : Array Bool} {a : Act} {w : World} (hr : Region.ready md ops l = [i]) (ho : ops[i]? = some o) (hz : (l.setIfInBounds i true).getD z false = true) (hw : Region.wanted o (yielded ops a.tmps) = true)
    (h : ∀ K' : Act → World → Prop, Shut (∀ a w, wpAnyY P md ops Q S z fuel (l.setIfInBounds i true) a w → K' a w) → Oper.wp P o a w K' Q) :
    wpAnyY P md ops Q S z (fuel + 1) l a w := wpAnyY_one hr ho hz (fun K' hK => by rw [if_pos hw]; exact h K' hK)
theorem wpAnyY_oneU {i : Nat} {o : Oper} {fuel : Nat} {l : Array Bool} {a : Act} {w : World} (hr : Region.ready md ops l = [i]) (ho : ops[i]? = some o) (hz : (l.setIfInBounds i true).getD z false = true) (hw : Region.wanted o (yielded ops a.tmps) = false)
    (h : wpAnyY P md ops Q S z fuel (l.setIfInBounds i true) (a.put o.dst undef) w) :
    wpAnyY P md ops Q S z (fuel + 1) l a w := wpAnyY_one hr ho hz (fun K' hK => by rw [if_neg (by rw [hw]; simp)]; exact hK.out _ _ h)
theorem wpAnyY_oneSW {i : Nat} {o : Oper} {fuel : Nat} {l : Array Bool} {a : Act} {w : World} (hr : Region.ready md ops l = [i]) (ho : ops[i]? = some o) (hw : Region.wanted o (yielded ops a.tmps) = true)
    (h : ∀ K' : Act → World → Prop, Shut (∀ a w, S w → (S w → wpAnyY P md ops Q S z fuel (l.setIfInBounds i true) a w) → K' a w) → Oper.wp P o a w K' Q) :
    wpAnyY P md ops Q S z (fuel + 1) l a w := wpAnyY_oneS hr ho (fun K' hK => by rw [if_pos hw]; exact h K' hK)
theorem wpAnyY_oneSU {i : Nat} {o : Oper} {fuel : Nat} {l : Array Bool} {a : Act} {w : World} (hr : Region.ready md ops l = [i]) (ho : ops[i]? = some o) (hw : Region.wanted o (yielded ops a.tmps) = false) (hS : S w)
    (h : wpAnyY P md ops Q S z fuel (l.setIfInBounds i true) (a.put o.dst undef) w) :
    wpAnyY P md ops Q S z (fuel + 1) l a w := wpAnyY_oneS hr ho (fun K' hK => by rw [if_neg (by rw [hw]; simp)]; exact hK.out _ _ hS (fun _ => h))
end

def stepL (rows : Nat → List Sp) (l : Nat) (ls : List Nat) (f : At) (sp : Int) (s : Sp) : List At := if (s.more : Int) ≤ sp then settleL rows ls (upd f l (s.x, s.y)) (sp - s.more) else []
theorem settleL_cons (rows : Nat → List Sp) (l : Nat) (ls : List Nat) (f : At) (sp : Int) : settleL rows (l :: ls) f sp = (rows l).flatMap (stepL rows l ls f sp) := rfl
theorem flatMap_take_succ {α β : Type} [Inhabited α] (k : α → List β) (r : List α) (q : Nat) (h : q < r.length) : (r.take (q + 1)).flatMap k = (r.take q).flatMap k ++ k (r.getD q default) := by
  rw [List.take_succ_eq_append_getElem h, List.flatMap_append]
  simp [h]
theorem flatMap_take_pre {α β : Type} (k : α → List β) (r : List α) (q : Nat) : (r.take q).flatMap k <+: r.flatMap k := by
  refine ⟨(r.drop q).flatMap k, ?_⟩
  rw [← List.flatMap_append, List.take_append_drop]

end Go.Proofs.YtnkmcoljijmgpaaGreat
namespace Go.Proofs
open Go.Shelf
open Go.Sort Go.RowKit in
open Go.RowKit Go.Lib Go.Sort in
open Go.RowKit Go.Lib Go.Sort in
open Go.RowKit Go.Lib Go.Sort in
open Go.RowKit Go.Lib in
open Go.RowKit Go.Lib in
open Go.RowKit Go.Lib Go.Sort in
open Go.RowKit Go.Sort in
set_option linter.unusedSimpArgs false
set_option linter.unusedVariables false
namespace Go.Proofs.YtnkmcoljijmgpaaGreat
open Go.RowKit Go.Shelf Go.Sort

section
end
end Go.Proofs.YtnkmcoljijmgpaaGreat
set_option linter.unusedSimpArgs false
set_option linter.unusedVariables false
namespace Go.Proofs.YtnkmcoljijmgpaaGreat
open Go.RowKit Go.Shelf

end Go.Proofs.YtnkmcoljijmgpaaGreat
set_option linter.unusedSimpArgs false
set_option linter.unusedVariables false
namespace Go.Proofs.YtnkmcoljijmgpaaGreat
open Go.RowKit Go.Shelf
end Go.Proofs.YtnkmcoljijmgpaaGreat
set_option linter.unusedSimpArgs false
set_option linter.unusedVariables false
namespace Go.Proofs.YtnkmcoljijmgpaaGreat
open Go.RowKit Go.Shelf

end Go.Proofs.YtnkmcoljijmgpaaGreat
set_option linter.unusedSimpArgs false
set_option linter.unusedVariables false
namespace Go.Proofs.YtnkmcoljijmgpaaGreat
open Go.RowKit Go.Shelf
end Go.Proofs.YtnkmcoljijmgpaaGreat
set_option linter.unusedSimpArgs false
set_option linter.unusedVariables false
namespace Go.Proofs.YtnkmcoljijmgpaaGreat
open Go.RowKit Go.Shelf

end Go.Proofs.YtnkmcoljijmgpaaGreat
end Go.Proofs
set_option linter.unusedSimpArgs false
set_option linter.unusedVariables false
namespace Go.Proofs.YtnkmcoljijmgpaaGreat
open Go.RowKit

section
variable (north cols lofts wrong loft kind xl xh yl yh ax ay dl dh : Int) (ea : Option Addr) (el ec : Nat) (s : Value) (w : World)
end

end Go.Proofs.YtnkmcoljijmgpaaGreat
set_option linter.unusedSimpArgs false
set_option linter.unusedVariables false
namespace Go.Proofs.YtnkmcoljijmgpaaGreat
open Go.RowKit
attribute [local go_sem] Oper.semAt_some

end Go.Proofs.YtnkmcoljijmgpaaGreat
set_option linter.unusedSimpArgs false
set_option linter.unusedVariables false
namespace Go.Proofs.YtnkmcoljijmgpaaGreat
open Go.RowKit
attribute [local go_sem] Oper.semAt_some

def exEast : List Int := [800, 700, 600]
def exSvs : List Sv := [⟨0, 1, 0, 1, 0, 0, 0, 0, 0, 0⟩, ⟨0, 2, 0, 0, 0, 0, 3, 0, 1601, 2400⟩, ⟨1, 1, 2, 3, 1, 2, 0, 0, 0, 0⟩, ⟨1, 2, 0, 0, 0, 0, 0, 0, 1800, 2300⟩]
def exCells : Array Value := #[.int .i64 0, .int .i64 1, .int .i64 0, .int .i64 1, .int .i64 0, .int .i64 0, .int .i64 0, .int .i64 0, .int .i64 0, .int .i64 0, .int .i64 0, .int .i64 2, .int .i64 0, .int .i64 0, .int .i64 0, .int .i64 0, .int .i64 3, .int .i64 0, .int .i64 1601, .int .i64 2400, .int .i64 1, .int .i64 1, .int .i64 2, .int .i64 3, .int .i64 1, .int .i64 2, .int .i64 0, .int .i64 0, .int .i64 0, .int .i64 0, .int .i64 1, .int .i64 2, .int .i64 0, .int .i64 0, .int .i64 0, .int .i64 0, .int .i64 0, .int .i64 0, .int .i64 1800, .int .i64 2300]
end Go.Proofs.YtnkmcoljijmgpaaGreat
set_option linter.unusedSimpArgs false
set_option linter.unusedVariables false
namespace Go.Proofs.YtnkmcoljijmgpaaGreat
open Go.RowKit
attribute [local go_sem] Oper.semAt_some
theorem ex_check : checkE 1000 (4 : Nat) exEast (2 : Nat) exSvs 1 = 0 := by decide +kernel
theorem ex_many : manyV 1000 1 4 2 exEast exSvs = 10 := by decide +kernel
theorem ex_few : fewSum 1000 4 exEast exSvs 2 = 0 := by decide +kernel
theorem ex_ne : (settleL (spotsOf 1000 4 exEast exSvs) [0, 1] (fun _ => (0, 0)) 1).isEmpty = false := by decide +kernel
theorem ex_len : rnd 2 (sqI 1000 exEast 0 0 2 1).toNat = 1803 := by decide +kernel

section
variable {gE gS : Nat} {w : World} (he : IntsAt w (some ⟨gE, 0, none⟩) exEast) (hs : SvsAt w (some ⟨gS, 0, none⟩) exSvs)
include he hs
end

end Go.Proofs.YtnkmcoljijmgpaaGreat
set_option linter.unusedSimpArgs false
set_option linter.unusedVariables false
namespace Go.Proofs.YtnkmcoljijmgpaaGreat
open Go.RowKit
attribute [local go_sem] Oper.semAt_some

theorem sq_neg (x y : Int) : (x - y) * (x - y) = (y - x) * (y - x) := by
  have : x - y = -(y - x) := by omega
  rw [this, Int.neg_mul_neg]
theorem sqI_comm (north : Int) (east : List Int) (ax ay bx bY : Int) : sqI north east ax ay bx bY = sqI north east bx bY ax ay := by
  unfold sqI
  have e1 : 2 * north * (ay - bY) = -(2 * north * (bY - ay)) := by rw [← Int.mul_neg]; congr 1; omega
  have e2 : (east.getD ay.toNat 0 + east.getD bY.toNat 0) * (ax - bx) = -((east.getD bY.toNat 0 + east.getD ay.toNat 0) * (bx - ax)) := by
    rw [← Int.mul_neg, Int.add_comm]; congr 1; omega
  rw [e1, e2, Int.neg_mul_neg, Int.neg_mul_neg]

/-- the roundings of the root of n -/
theorem rnd_facts (n : Nat) (hn : n ≤ 2592000000000000) : ∃ (d half more : Nat), rnd 0 n = d ∧ rnd 1 n = d + half ∧ rnd 2 n = d + more ∧ d ≤ 100000000 ∧ 4 * d * d ≤ n ∧ n < 4 * (d + 1) * (d + 1) ∧
    ((half = 1 ∧ (2 * d + 1) * (2 * d + 1) ≤ n) ∨ (half = 0 ∧ n < (2 * d + 1) * (2 * d + 1))) ∧ ((more = 1 ∧ 4 * d * d < n) ∨ (more = 0 ∧ 4 * d * d = n)) := by
  obtain ⟨h1, h2⟩ := rt_spec n (by omega)
  have hle := rt_le n 60000000 (by omega) (by omega)
  obtain ⟨d, hd⟩ : ∃ d, d = rt n / 2 := ⟨_, rfl⟩
  obtain ⟨S, hS⟩ : ∃ S, S = d * d := ⟨_, rfl⟩
  have e1 : (2 * d) * (2 * d) = 4 * S := by rw [hS]; exact Nat.mul_mul_mul_comm 2 d 2 d
  have e2 : (2 * d + 1) * (2 * d + 1) = 4 * S + 4 * d + 1 := by rw [Nat.add_mul, Nat.mul_add, e1]; omega
  have e3 : (2 * d + 1 + 1) * (2 * d + 1 + 1) = 4 * S + 8 * d + 4 := by rw [Nat.add_mul, Nat.mul_add, e2]; omega
  have e4 : 4 * d * d = 4 * S := by rw [hS, Nat.mul_assoc]
  have e5 : 4 * (d + 1) * (d + 1) = 4 * S + 8 * d + 4 := by
    have : (d + 1) * (d + 1) = S + 2 * d + 1 := by rw [Nat.add_mul, Nat.mul_add, ← hS]; omega
    rw [Nat.mul_assoc, this]; omega
  have h0 : rnd 0 n = d := by unfold rnd; rw [if_pos rfl, hd]
  have hn1 : rnd 1 n = (rt n + 1) / 2 := by unfold rnd; rw [if_neg (by omega), if_pos rfl]
  have hn2 : rnd 2 n = (rtUp n + 1) / 2 := by unfold rnd; rw [if_neg (by omega), if_neg (by omega)]
  have hr : rt n = 2 * d ∨ rt n = 2 * d + 1 := by omega
  rcases hr with hr | hr
  · rw [hr] at h1 h2
    rw [e1] at h1
    rw [e2] at h2
    by_cases he : 4 * S = n
    · refine ⟨d, 0, 0, h0, by rw [hn1, hr]; omega, by rw [hn2]; unfold rtUp; rw [if_neg (by rw [hr, e1]; omega), hr]; omega, by omega, by omega, by omega, .inr ⟨rfl, by omega⟩, .inr ⟨rfl, by omega⟩⟩
    · refine ⟨d, 0, 1, h0, by rw [hn1, hr]; omega, by rw [hn2]; unfold rtUp; rw [if_pos (by rw [hr, e1]; omega), hr]; omega, by omega, by omega, by omega, .inr ⟨rfl, by omega⟩, .inl ⟨rfl, by omega⟩⟩
  · rw [hr] at h1 h2
    rw [e2] at h1
    rw [e3] at h2
    refine ⟨d, 1, 1, h0, by rw [hn1, hr]; omega, by rw [hn2]; unfold rtUp; split <;> rw [hr] <;> omega, by omega, by omega, by omega, .inl ⟨rfl, by omega⟩, .inl ⟨rfl, by omega⟩⟩

/-- what the law says, for a map of the document's kind at places of it -/
def mapA (north cols : Int) (ea : Option Addr) (el ec : Nat) (lofts : Int) (sa : Option Addr) (sl sc : Nat) (wrong : Int) : Array Value := #[.int .i64 north, .int .i64 cols, .slice ea el ec, .int .i64 lofts, .slice sa sl sc, .int .i64 wrong]

section
variable (north cols lofts wrong px py qx qy : Int) (east : List Int) (svs : List Sv) (ea sa : Option Addr) (ec sc : Nat) (w : World)
variable (he : IntsAt w ea east) (hs : SvsAt w sa svs) (hl : east.length ≤ 9223372036854775807) (hl2 : svs.length ≤ 9223372036854775807)

theorem w3_spec (w : World) (c0 c1 c2 : Array Value) (t0 t1 t2 : TypeId) :
    G w (((w.alloc (.cells c0 t0)).alloc (.cells c1 t1)).alloc (.cells c2 t2)) ∧ Blk (((w.alloc (.cells c0 t0)).alloc (.cells c1 t1)).alloc (.cells c2 t2)) w.heap.size t0 c0 ∧ Blk (((w.alloc (.cells c0 t0)).alloc (.cells c1 t1)).alloc (.cells c2 t2)) (w.heap.size + 1) t1 c1 ∧ Blk (((w.alloc (.cells c0 t0)).alloc (.cells c1 t1)).alloc (.cells c2 t2)) (w.heap.size + 1 + 1) t2 c2 :=
  ⟨(((G.rf w).a _).a _).a _, ((Blk.new w t0 c0).alloc _).alloc _, (Blk.new1 w _ t1 c1).alloc _, Blk.new2 w _ _ t2 c2⟩

end
end Go.Proofs.YtnkmcoljijmgpaaGreat
set_option linter.unusedSimpArgs false
set_option linter.unusedVariables false
namespace Go.Proofs.YtnkmcoljijmgpaaGreat
open Go.RowKit Go.ChangeShapes Go.WideShapes Go.ChangeAt
set_option maxRecDepth 100000

theorem k3 : Tryz.prog.cellsOf 3 = 1 := by kernel_rfl
theorem k22 : Tryz.prog.cellsOf 24 = 1 := by kernel_rfl
theorem k46 : Tryz.prog.cellsOf 62 = 2 := by kernel_rfl
section
variable {H : Type} {enc : TypeId × Value → H} {w : World} {base : Nat} {sp : Nat → Bool} {held : Bool} {fuel : Nat}
theorem span_of {cs : List Value} {x : DataW H × List MemPlace} (h : DataW.trod enc Tryz.prog w base sp held fuel 62 cs = some x) : ∃ a b, cs = [.int .i64 a, .int .i64 b] := by
  obtain ⟨y0, y1, n, rfl, hl, h0, h1⟩ := trod_struct2 Tryz.underlying62 h
  rw [k46] at hl
  match cs, hl with
  | [c0, c1], _ =>
    simp only [k3, List.drop_zero, List.drop_succ_cons, List.take_succ_cons, List.take_zero] at h0 h1
    obtain ⟨a, e0, _, _⟩ := DataW.trod_int Tryz.underlying3 h0
    obtain ⟨b, e1, _, _⟩ := DataW.trod_int Tryz.underlying3 h1
    simp at e0 e1
    exact ⟨a, b, by rw [e0, e1]⟩
end

theorem add_none (b off k : Nat) : (⟨b, off, none⟩ : Addr).add k = ⟨b, off + k, none⟩ := by
  unfold Addr.add
  split
  · rename_i h; simp [h]
  · rfl
theorem lt_of_cell {w : World} {b o : Nat} {v : Value} (h : w.cell? ⟨b, o, none⟩ = some v) : b < w.heap.size := by
  rcases Nat.lt_or_ge b w.heap.size with hlt | hge
  · exact hlt
  · simp [World.cell?, Array.getElem?_eq_none hge] at h

section
variable {H : Type} {enc : TypeId × Value → H} {w : World} {fuel : Nat}
theorem ints_of {cs : List Value} {x : DataW H × List MemPlace} (h : DataW.trod enc Tryz.prog w 0 (fun _ => true) true fuel 24 cs = some x) :
    ∃ (a : Option Addr) (cap : Nat) (l : List Int), cs = [.slice a l.length cap] ∧ IntsAt w a l ∧ l.length ≤ maxLen := by
  rcases open_ints Tryz.underlying24 Tryz.underlying3 k3 h with ⟨rfl, _⟩ | ⟨a, len, cap, zs, rfl, _, hl, hm, hz, _, hcell, _⟩
  · exact ⟨none, 0, [], rfl, .inl rfl, by simp⟩
  · simp at hz
    have hlen : (zs.take len).length = len := by simp; omega
    refine ⟨some a, cap, zs.take len, by rw [hlen], ?_, by omega⟩
    rcases Nat.eq_zero_or_pos len with h0 | h0
    · left; simp [h0]
    · right
      have c0 := hcell 0 (by omega)
      obtain ⟨b, off, spot⟩ := a
      have hspot : spot = none := by simpa [Addr.add] using World.cell?_spot c0
      subst hspot
      refine ⟨b, off, rfl, lt_of_cell (by simpa [Addr.add] using c0), fun k hk => ?_⟩
      have ck := hcell k (by omega)
      have hk2 : k < len := by omega
      have hk3 : k < zs.length := by omega
      rw [add_none] at ck
      simp [hk3] at ck
      simp [hk2, hk3, ck]
end
end Go.Proofs.YtnkmcoljijmgpaaGreat
set_option linter.unusedSimpArgs false
set_option linter.unusedVariables false
namespace Go.Proofs.YtnkmcoljijmgpaaGreat
open Go.RowKit Go.ChangeShapes Go.WideShapes Go.ChangeAt
set_option maxRecDepth 100000

theorem w2_spec (w : World) (c0 c1 : Array Value) (t0 t1 : TypeId) :
    G w ((w.alloc (.cells c0 t0)).alloc (.cells c1 t1)) ∧ Blk ((w.alloc (.cells c0 t0)).alloc (.cells c1 t1)) w.heap.size t0 c0 ∧ Blk ((w.alloc (.cells c0 t0)).alloc (.cells c1 t1)) (w.heap.size + 1) t1 c1 :=
  ⟨((G.rf w).a _).a _, (Blk.new w t0 c0).alloc _, Blk.new1 w _ t1 c1⟩
section
variable {H : Type} {enc : TypeId × Value → H} {w : World}
end
end Go.Proofs.YtnkmcoljijmgpaaGreat
set_option linter.unusedSimpArgs false
set_option linter.unusedVariables false
namespace Go.Proofs.YtnkmcoljijmgpaaGreat
open Go.RowKit Go.Shelf
attribute [local go_sem] Oper.semAt_some

theorem addr_add (b off k : Nat) : (⟨b, off, none⟩ : Addr).add k = ⟨b, off + k, none⟩ := by
  unfold Addr.add
  split
  · rename_i h; simp [h]
  · rfl
theorem src_east {w : World} {b off : Nat} {east : List Int} (hb : b < w.heap.size) (hc : ∀ k, k < east.length → w.cell? ⟨b, off + k, none⟩ = some (.int .i64 (east.getD k 0))) (W : World) (hW : G w W) :
    ∀ j u, (east.map (Value.int .i64))[j]? = some u → W.cell? ((⟨b, off, none⟩ : Addr).add j) = some u := fun j u h => by
  rw [addr_add]
  rw [List.getElem?_map] at h
  have hj : j < east.length := by
    rcases Nat.lt_or_ge j east.length with h1 | h1
    · exact h1
    · rw [List.getElem?_eq_none h1] at h; cases h
  have := ((bcellB hW).1 b (off + j) hb).trans (hc j hj)
  rw [this]
  simpa [hj] using h
/-- the surveys' cells as a source of append -/
theorem src_svs {w : World} {sa : Option Addr} {svs : List Sv} {sc : Nat} (hs : SvsAt w sa svs) (hn : sa = none → sc = 0) :
    (sa = none ∧ svs.length = 0 ∧ sc = 0) ∨ ∃ (ad : Addr) (news : List Value), sa = some ad ∧ news.length = svs.length * 10 ∧ (∀ W, G w W → ∀ j u, news[j]? = some u → W.cell? (ad.add j) = some u) ∧ ∀ u ∈ news, Value.oneCell' u = true := by
  rcases hs with rfl | ⟨b, off, rfl, hb, hc⟩
  · cases sa with
    | none => exact .inl ⟨rfl, rfl, hn rfl⟩
    | some ad => exact .inr ⟨ad, [], rfl, rfl, fun W _ j u h => by simp at h, fun u h => by simp at h⟩
  · right
    have key : ∀ j, ∃ z : Int, j < svs.length * 10 → w.cell? ⟨b, off + j, none⟩ = some (.int .i64 z) := fun j => by
      by_cases hj : j < svs.length * 10
      · obtain ⟨h0, h1, h2, h3, h4, h5, h6, h7, h8, h9⟩ := hc (j / 10) (by omega)
        have e : j = j / 10 * 10 + j % 10 := by omega
        have hr : j % 10 < 10 := Nat.mod_lt _ (by omega)
        generalize j % 10 = r at e hr
        generalize j / 10 = i at *
        subst e
        rw [← Nat.add_assoc]
        match r, hr with
        | 0, _ => exact ⟨_, fun _ => h0⟩
        | 1, _ => exact ⟨_, fun _ => h1⟩
        | 2, _ => exact ⟨_, fun _ => h2⟩
        | 3, _ => exact ⟨_, fun _ => h3⟩
        | 4, _ => exact ⟨_, fun _ => h4⟩
        | 5, _ => exact ⟨_, fun _ => h5⟩
        | 6, _ => exact ⟨_, fun _ => h6⟩
        | 7, _ => exact ⟨_, fun _ => h7⟩
        | 8, _ => exact ⟨_, fun _ => h8⟩
        | 9, _ => exact ⟨_, fun _ => h9⟩
      · exact ⟨0, fun h => absurd h hj⟩
    obtain ⟨z, hz⟩ := Classical.axiomOfChoice key
    refine ⟨⟨b, off, none⟩, (List.range (svs.length * 10)).map fun j => Value.int .i64 (z j), rfl, by simp, fun W hW j u h => ?_, fun u h => ?_⟩
    · rw [addr_add]
      rw [List.getElem?_map] at h
      have hj : j < svs.length * 10 := by
        rcases Nat.lt_or_ge j (svs.length * 10) with h1 | h1
        · exact h1
        · rw [List.getElem?_eq_none (by simpa using h1)] at h; cases h
      have := ((bcellB hW).1 b (off + j) hb).trans (hz j hj)
      rw [this]
      simpa [hj] using h
    · obtain ⟨j, _, rfl⟩ := List.mem_map.1 h
      rfl
theorem own_empty {W : World} {g : Nat} {t : TypeId} (hb : Blk W g t #[]) (size : Nat) : W.ownsRow g t size (.slice (some ⟨g, 0, none⟩) 0 0) 0 [] :=
  ⟨by simp, .inr ⟨g, 0, #[], rfl, Nat.le_refl _, hb, Nat.le_refl _, by decide, by simp, by simp⟩⟩
end Go.Proofs.YtnkmcoljijmgpaaGreat
set_option linter.unusedSimpArgs false
set_option linter.unusedVariables false
namespace Go.Proofs.YtnkmcoljijmgpaaGreat
open Go.RowKit
attribute [local go_sem] Oper.semAt_some

section
variable (north wrong : Int) (cols lofts : Nat) (east : List Int) (svs : List Sv) (ea sa : Option Addr) (ec sc : Nat) (w : World)
end

def farB (north cols : Int) (east : List Int) (lofts : Int) (svs : List Sv) (wrong : Int) : Bool :=
  if 40 < east.length then true else if 60 < svs.length then true else checkE north cols east lofts svs wrong == 0 && (decide (20 < cols * east.length) || decide (5 < lofts))
def validB (north cols : Int) (east : List Int) (lofts : Int) (svs : List Sv) (wrong : Int) : Bool := !farB north cols east lofts svs wrong && checkE north cols east lofts svs wrong == 0

section
variable (north cols lofts wrong : Int) (east : List Int) (svs : List Sv) (ea sa : Option Addr) (ec sc : Nat) (w : World) (he : IntsAt w ea east) (hs : SvsAt w sa svs) (hl : east.length ≤ 9223372036854775807) (hl2 : svs.length ≤ 9223372036854775807)
include he hs hl hl2
end
end Go.Proofs.YtnkmcoljijmgpaaGreat
set_option linter.unusedSimpArgs false
set_option linter.unusedVariables false
namespace Go.Proofs.YtnkmcoljijmgpaaGreat
open Go.RowKit Go.Shelf
attribute [local go_sem] Oper.semAt_some wide_fn wide_dep wideR_fn wideR_dep

/-- the cells of some places -/
def ptCells (l : Nat) (L : List At) : List Value := L.flatMap fun f => [.int .i64 (f l).1, .int .i64 (f l).2]
theorem ptCells_snoc (l : Nat) (L : List At) (f : At) : ptCells l (L ++ [f]) = ptCells l L ++ [.int .i64 (f l).1, .int .i64 (f l).2] := by simp [ptCells]
theorem ownsRow_kt {base : Nat} {e : TypeId} {size k : Nat} {v : Value} {xs : List Value} {T : TypeId → Prop} {B : Nat} {X Y : World} (h : X.ownsRow base e size v k xs) (hk : Kt T B X Y) (hT : ¬ T e) : Y.ownsRow base e size v k xs := by
  refine ⟨h.1, ?_⟩
  rcases h.2 with h' | ⟨g, cap, cur, h1, h2, h3, h4⟩
  · exact .inl h'
  · exact .inr ⟨g, cap, cur, h1, h2, hk.block g _ h3 (.inr (fun c t f e' => by cases e'; exact hT)), h4⟩
end Go.Proofs.YtnkmcoljijmgpaaGreat
set_option linter.unusedSimpArgs false
set_option linter.unusedVariables false
namespace Go.Proofs.YtnkmcoljijmgpaaGreat
open Go.RowKit
attribute [local go_sem] Oper.semAt_some

section
variable (north wrong : Int) (cols lofts l a b : Nat) (east : List Int) (svs : List Sv) (ea sa : Option Addr) (ec sc : Nat) (w : World)
end
end Go.Proofs.YtnkmcoljijmgpaaGreat
set_option linter.unusedSimpArgs false
set_option linter.unusedVariables false
namespace Go.Proofs.YtnkmcoljijmgpaaGreat
open Go.RowKit

theorem foldl_min_mem : ∀ (l : List Nat) (a : Nat), l.foldl min a = a ∨ l.foldl min a ∈ l
  | [], a => .inl rfl
  | x :: l, a => by
    rw [List.foldl_cons]
    rcases foldl_min_mem l (min a x) with h | h
    · rw [h]
      rcases Nat.le_total a x with h2 | h2
      · left; omega
      · right; rw [show min a x = x by omega]; exact List.mem_cons_self
    · exact .inr (List.mem_cons_of_mem _ h)
theorem allP_first {cols rows : Nat} (hc : 1 ≤ cols) (hr : 1 ≤ rows) : (0, 0) ∈ allP cols rows := by
  unfold allP rowP
  exact List.mem_flatMap.2 ⟨0, by simp; omega, List.mem_map.2 ⟨0, by simp; omega, rfl⟩⟩
theorem spot_zero (north : Int) (cols : Nat) (east : List Int) (svs : List Sv) (l : Nat) (hc : 1 ≤ cols) (hr : 1 ≤ east.length) : ∃ s ∈ spotsOf north cols east svs l, s.more = 0 := by
  have key : ∃ p ∈ allP cols east.length, cost north east svs l p - lowC north east svs l (allP cols east.length) = 0 := by
    unfold lowC minC
    rcases foldl_min_mem ((allP cols east.length).map (cost north east svs l)) svs.length with h | h
    · refine ⟨(0, 0), allP_first hc hr, ?_⟩
      rw [h]
      have : cost north east svs l (0, 0) ≤ svs.length := by unfold cost; exact wrongN_le _ _ _ _ _ _
      omega
    · obtain ⟨p, hp, he⟩ := List.mem_map.1 h
      exact ⟨p, hp, by rw [← he]; omega⟩
  obtain ⟨p, hp, h0⟩ := key
  exact ⟨_, List.mem_map.2 ⟨p, hp, rfl⟩, h0⟩
theorem settleL_ne (rows : Nat → List Sp) : ∀ (ls : List Nat) (f0 : At) (sp : Int), (∀ l ∈ ls, ∃ s ∈ rows l, s.more = 0) → 0 ≤ sp → settleL rows ls f0 sp ≠ []
  | [], f0, sp, _, _ => by simp [settleL]
  | l :: ls, f0, sp, h, hsp => by
    obtain ⟨s, hs, h0⟩ := h l List.mem_cons_self
    have ih := settleL_ne rows ls (upd f0 l (s.x, s.y)) sp (fun x hx => h x (List.mem_cons_of_mem _ hx)) hsp
    obtain ⟨f, hf⟩ := List.exists_mem_of_ne_nil _ ih
    rw [settleL_cons]
    refine List.ne_nil_of_mem (a := f) (List.mem_flatMap.2 ⟨s, hs, ?_⟩)
    unfold stepL
    rw [if_pos (by rw [h0]; omega), h0]
    simpa using hf
end Go.Proofs.YtnkmcoljijmgpaaGreat
set_option linter.unusedSimpArgs false
set_option linter.unusedVariables false
namespace Go.Proofs.YtnkmcoljijmgpaaGreat
open Go.RowKit
attribute [local go_sem] Oper.semAt_some

theorem rt_mono {n m : Nat} (h : n ≤ m) (hm : m < 18446744073709551616) : rt n ≤ rt m := by
  obtain ⟨a, b⟩ := rt_spec n (by omega)
  obtain ⟨c, d⟩ := rt_spec m hm
  apply Nat.le_of_not_lt
  intro hlt
  have := Nat.mul_le_mul (show rt m + 1 ≤ rt n by omega) (show rt m + 1 ≤ rt n by omega)
  omega
theorem rtUp_mono {n m : Nat} (h : n ≤ m) (hm : m < 18446744073709551616) : rtUp n ≤ rtUp m := by
  have h1 := rt_mono h hm
  unfold rtUp
  by_cases he : rt n = rt m
  · rw [he]
    split
    · rw [if_pos (by omega)]; omega
    · split <;> omega
  · split <;> split <;> omega
/-- a rounding keeps the order -/
theorem rnd_mono (r : Int) {n m : Nat} (h : n ≤ m) (hm : m < 18446744073709551616) : rnd r n ≤ rnd r m := by
  have h1 := rt_mono h hm
  have h2 := rtUp_mono h hm
  unfold rnd
  split
  · exact Nat.div_le_div_right h1
  · split
    · exact Nat.div_le_div_right (by omega)
    · exact Nat.div_le_div_right (by omega)

end Go.Proofs.YtnkmcoljijmgpaaGreat
set_option linter.unusedSimpArgs false
set_option linter.unusedVariables false
namespace Go.Proofs.YtnkmcoljijmgpaaGreat
open Go.RowKit
attribute [local go_sem] Oper.semAt_some

def PtsAt (W : World) (g : Nat) (P : List (Nat × Nat)) : Prop := ∀ i, i < P.length → W.cell? ⟨g, i * 2, none⟩ = some (.int .i64 (P.getD i (0, 0)).1) ∧ W.cell? ⟨g, i * 2 + 1, none⟩ = some (.int .i64 (P.getD i (0, 0)).2)
theorem PtsAt.keep {W W' : World} {g : Nat} {P : List (Nat × Nat)} (h : PtsAt W g P) (hg : g < W.heap.size) (k : G W W') : PtsAt W' g P := fun i hi =>
  ⟨((bcellB k).1 _ _ hg).trans (h i hi).1, ((bcellB k).1 _ _ hg).trans (h i hi).2⟩
theorem pts_get : ∀ (P : List (Nat × Nat)) (i : Nat), i < P.length → (P.flatMap fun p => [Value.int .i64 p.1, .int .i64 p.2])[i * 2]? = some (.int .i64 (P.getD i (0, 0)).1) ∧ (P.flatMap fun p => [Value.int .i64 p.1, .int .i64 p.2])[i * 2 + 1]? = some (.int .i64 (P.getD i (0, 0)).2)
  | [], i, h => by simp at h
  | p :: P, 0, _ => by simp
  | p :: P, i + 1, h => by
    have ih := pts_get P i (by simpa using h)
    rw [List.flatMap_cons, show (i + 1) * 2 = i * 2 + 2 by omega, show i * 2 + 2 + 1 = (i * 2 + 1) + 2 by omega]
    simpa using ih
theorem own_G {X Y : World} {base : Nat} {e : TypeId} {size k : Nat} {v : Value} {xs : List Value} (h : X.ownsRow base e size v k xs) (hk : G X Y) : Y.ownsRow base e size v k xs :=
  ownsRow_kt h (G.kt (T := fun _ => False) (B := 0) hk) (fun h => h)
def natV (l : List Nat) : List Value := l.map fun n : Nat => Value.int .i64 (n : Int)
def ptsV (P : List (Nat × Nat)) : List Value := P.flatMap fun p => [Value.int .i64 p.1, Value.int .i64 p.2]
theorem ptsV_snoc (P : List (Nat × Nat)) (p : Nat × Nat) : ptsV (P ++ [p]) = ptsV P ++ [Value.int .i64 p.1, Value.int .i64 p.2] := by
  unfold ptsV
  rw [List.flatMap_append]
  rfl
theorem grow_own {wb WX w4 : World} {base : Nat} {e : TypeId} {size n : Nat} {v : Value} {xs : List Value} (hG : G wb WX) (h : WX.ownsRow base e size v n xs) (hb : wb.heap.size ≤ base) (hg : WX.grownBy w4 v.ownBlock) : G wb w4 :=
  (Fr.grown (G.fr (R := fun _ => False) hG) hg (fun g e => .inr (Nat.le_trans hb (own_base h e)))).toG (fun _ _ h => h)
theorem own_own {W : World} {b1 b2 s1 s2 n1 n2 : Nat} {e1 e2 : TypeId} {v1 v2 : Value} {xs1 xs2 : List Value} (h1 : W.ownsRow b1 e1 s1 v1 n1 xs1) (h2 : W.ownsRow b2 e2 s2 v2 n2 xs2) (hne : e1 ≠ e2) : v1.ownBlock = none ∨ v1.ownBlock ≠ v2.ownBlock := by
  rcases h1.2 with ⟨rfl, _⟩ | ⟨g, cap, cur, rfl, _, hb, _⟩
  · exact .inl rfl
  · exact .inr (own_ne h2 (show Blk W g e1 cur from hb) hne)
theorem own_some {W : World} {b s n : Nat} {e : TypeId} {v : Value} {xs : List Value} (h : W.ownsRow b e s v n xs) (hn : 0 < n) : ∃ g cap cur, v = .slice (some ⟨g, 0, none⟩) n cap ∧ Blk W g e cur ∧ g < W.heap.size ∧ cur.toList.take (n * s) = xs := by
  rcases h.2 with ⟨_, h0⟩ | ⟨g, cap, cur, rfl, _, hb, _, _, _, ht⟩
  · omega
  · exact ⟨g, cap, cur, rfl, hb, (Array.getElem?_eq_some_iff.1 hb).1, ht⟩
theorem take_cell {W : World} {g : Nat} {e : TypeId} {cur : Array Value} {n : Nat} {xs : List Value} (h : Blk W g e cur) (ht : cur.toList.take n = xs) {k : Nat} (hk : k < n) {v : Value} (hx : xs[k]? = some v) : W.cell? ⟨g, k, none⟩ = some v := by
  rw [h.cell k]
  rw [← ht, List.getElem?_take_of_lt hk] at hx
  simpa using hx
def ZAt (w : World) (a : Option Addr) (l : List (Int × Int)) : Prop := l = [] ∨ ∃ b off, a = some ⟨b, off, none⟩ ∧ b < w.heap.size ∧ ∀ k, k < l.length →
  w.cell? ⟨b, off + k * 2, none⟩ = some (.int .i64 (l.getD k (0, 0)).1) ∧ w.cell? ⟨b, off + k * 2 + 1, none⟩ = some (.int .i64 (l.getD k (0, 0)).2)
theorem ZAt.below {w W : World} {a : Option Addr} {l : List (Int × Int)} (h : ZAt w a l) (hG : G w W) : ZAt W a l := by
  rcases h with rfl | ⟨b, off, rfl, hb, hc⟩
  · exact .inl rfl
  · refine .inr ⟨b, off, rfl, Nat.lt_of_lt_of_le hb hG.size, fun k hk => ?_⟩
    obtain ⟨h1, h2⟩ := hc k hk
    exact ⟨((bcellB hG).1 b _ hb).trans h1, ((bcellB hG).1 b _ hb).trans h2⟩
def zz (P : List (Nat × Nat)) : List (Int × Int) := P.map fun p => ((p.1 : Int), (p.2 : Int))
theorem ptCells_eq (l : Nat) (L : List At) : ptCells l L = ptsV (L.map fun f => f l) := by
  simp [ptCells, ptsV, List.flatMap_map]
section
variable {north wrong : Int} {cols lofts : Nat} {east : List Int} {svs : List Sv} {l : List (Int × Int)}
theorem settleL_len3 (rows : Nat → List Sp) (B : Nat) (hB : 1 ≤ B) : ∀ (ls : List Nat) (f : At) (sp : Int), (∀ l ∈ ls, (rows l).length ≤ B) → (settleL rows ls f sp).length ≤ B ^ ls.length
  | [], _, _, _ => by simp [settleL]
  | l :: ls, f, sp, h => by
    rw [settleL_cons, List.length_cons, Nat.pow_succ]
    have key : ∀ r : List Sp, (r.flatMap (stepL rows l ls f sp)).length ≤ r.length * B ^ ls.length := by
      intro r
      induction r with
      | nil => simp
      | cons s r ih =>
        rw [List.flatMap_cons, List.length_append, List.length_cons, Nat.add_mul, Nat.one_mul]
        have : (stepL rows l ls f sp s).length ≤ B ^ ls.length := by
          unfold stepL
          split
          · exact settleL_len3 rows B hB ls _ _ (fun x hx => h x (List.mem_cons_of_mem _ hx))
          · simp
        omega
    refine Nat.le_trans (key _) ?_
    rw [Nat.mul_comm]
    exact Nat.mul_le_mul_left _ (h l List.mem_cons_self)
end
section
variable {north wrong : Int} {cols lofts : Nat} {east : List Int} {svs : List Sv} {l : List (Int × Int)}
end
theorem ptsV_len2 (P : List (Nat × Nat)) : (ptsV P).length = P.length * 2 := by
  induction P with
  | nil => rfl
  | cons p P ih => simp only [ptsV, List.flatMap_cons, List.length_append, List.length_cons] at *; rw [ih]; simp; omega
theorem ptsV_one2 (P : List (Nat × Nat)) : ∀ u ∈ ptsV P, u.oneCell' = true := by
  intro u hu
  obtain ⟨p, _, hp⟩ := List.mem_flatMap.1 hu
  rcases List.mem_cons.1 hp with rfl | hp
  · rfl
  · rw [List.mem_singleton.1 hp]; rfl
theorem add0 (g j : Nat) : (⟨g, 0, none⟩ : Addr).add j = ⟨g, j, none⟩ := by
  unfold Addr.add
  by_cases h : j = 0
  · subst h; rfl
  · simp [h]
theorem pts_src {W : World} {g : Nat} {P : List (Nat × Nat)} (h : PtsAt W g P) : ∀ j u, (ptsV P)[j]? = some u → W.cell? ((⟨g, 0, none⟩ : Addr).add j) = some u := by
  intro j u hj
  have hlt : j < (ptsV P).length := (List.getElem?_eq_some_iff.1 hj).1
  rw [ptsV_len2] at hlt
  obtain ⟨i, hi⟩ : ∃ i, j = i * 2 ∨ j = i * 2 + 1 := ⟨j / 2, by omega⟩
  have hip : i < P.length := by omega
  obtain ⟨p1, p2⟩ := pts_get P i hip
  obtain ⟨c1, c2⟩ := h i hip
  rcases hi with rfl | rfl
  · have e : some u = some (Value.int .i64 (P.getD i (0, 0)).1) := hj.symm.trans p1
    rw [e, add0]
    exact c1
  · have e : some u = some (Value.int .i64 (P.getD i (0, 0)).2) := hj.symm.trans p2
    rw [e, add0]
    exact c2
theorem Blk.kept6 {W W' : World} {g : Nat} {t : TypeId} {cs : Array Value} (h : W'.heap[g]? = W.heap[g]?) (b : Blk W g t cs) : Blk W' g t cs := by
  unfold Blk at *
  rw [h]
  exact b
theorem cells_two {W : World} {g : Nat} {t : TypeId} {a b : Value} (h : Blk W g t #[a, b]) : ∀ j u, [a, b][j]? = some u → W.cell? ((⟨g, 0, none⟩ : Addr).add j) = some u := by
  intro j u hj
  rw [add0, h.cell j]
  simpa using hj
theorem own_one7 {W : World} {base n size : Nat} {e : TypeId} {v : Value} {xs : List Value} (h : W.ownsRow base e size v n xs) : ∀ u ∈ [v], u.oneCell' = true := by
  intro u hu
  rw [List.mem_singleton.1 hu]
  rcases h.2 with ⟨rfl, _⟩ | ⟨g, cap, cur, rfl, _⟩ <;> rfl
theorem own_one {W : World} {g : Nat} {e : TypeId} {x : Value} (b : Blk W g e #[x]) : W.ownsRow g e 1 (.slice (some ⟨g, 0, none⟩) 1 1) 1 [x] :=
  ⟨by simp, .inr ⟨g, 1, #[x], rfl, Nat.le_refl _, b, Nat.le_refl _, by decide, by simp, by simp⟩⟩
theorem own_slice {W : World} {base n size : Nat} {e : TypeId} {v : Value} {xs : List Value} (h : W.ownsRow base e size v n xs) : ∃ ra rc, v = .slice ra n rc := by
  rcases h.2 with ⟨rfl, h0⟩ | ⟨g, cap, cur, rfl, _⟩
  · subst h0; exact ⟨_, _, rfl⟩
  · exact ⟨_, _, rfl⟩
end Go.Proofs.YtnkmcoljijmgpaaGreat
set_option linter.unusedSimpArgs false
set_option linter.unusedVariables false
namespace Go.Proofs.YtnkmcoljijmgpaaGreat
open Go.RowKit

/-- a frame whose slots (second) hold what the operations (first) yield -/
def TP (ds : List (Nat × Nat)) (tm : Array Value) (f : Nat → Value) : Array Value := ds.foldl (fun t p => t.setIfInBounds p.2 (f p.1)) tm
theorem TP_comm (d : Nat) (v : Value) : ∀ (ds : List (Nat × Nat)) (tm : Array Value) (f : Nat → Value), d ∉ ds.map (·.2) → (TP ds tm f).setIfInBounds d v = TP ds (tm.setIfInBounds d v) f
  | [], _, _, _ => rfl
  | p :: ds, tm, f, h => by
    have h1 : d ≠ p.2 := fun e => h (by simp [e])
    have h2 : d ∉ ds.map (·.2) := fun e => h (by simp only [List.map_cons, List.mem_cons]; exact .inr e)
    show (TP ds (tm.setIfInBounds p.2 (f p.1)) f).setIfInBounds d v = TP ds ((tm.setIfInBounds d v).setIfInBounds p.2 (f p.1)) f
    rw [TP_comm d v ds _ f h2, Array.setIfInBounds_comm _ _ (Ne.symm h1)]
theorem TP_upd (j : Nat) (v : Value) : ∀ (ds : List (Nat × Nat)) (tm : Array Value) (f : Nat → Value), j ∉ ds.map (·.1) → TP ds tm (upd f j v) = TP ds tm f
  | [], _, _, _ => rfl
  | p :: ds, tm, f, h => by
    have h1 : p.1 ≠ j := fun e => h (by simp [e])
    have h2 : j ∉ ds.map (·.1) := fun e => h (by simp only [List.map_cons, List.mem_cons]; exact .inr e)
    show TP ds (tm.setIfInBounds p.2 (upd f j v p.1)) (upd f j v) = TP ds (tm.setIfInBounds p.2 (f p.1)) f
    rw [TP_upd j v ds _ f h2, show upd f j v p.1 = f p.1 from if_neg h1]
theorem TP_set (j d : Nat) (v : Value) : ∀ (ds : List (Nat × Nat)) (tm : Array Value) (f : Nat → Value), (ds.map (·.1)).Nodup → (ds.map (·.2)).Nodup → (j, d) ∈ ds → (TP ds tm f).setIfInBounds d v = TP ds tm (upd f j v)
  | [], _, _, _, _, h => by cases h
  | p :: ds, tm, f, n1, n2, h => by
    simp only [List.map_cons, List.nodup_cons] at n1 n2
    rcases List.mem_cons.1 h with rfl | h
    · show (TP ds (tm.setIfInBounds d (f j)) f).setIfInBounds d v = TP ds (tm.setIfInBounds d (upd f j v j)) (upd f j v)
      rw [TP_comm d v ds _ f n2.1, TP_upd j v ds _ f n1.1, show upd f j v j = v from if_pos rfl]
      congr 1
      refine Array.ext_getElem? fun k => ?_
      simp only [Array.getElem?_setIfInBounds, Array.size_setIfInBounds]
      by_cases hk : d = k
      · subst hk; simp
      · simp [hk]
    · have h1 : p.1 ≠ j := fun e => n1.1 (by rw [e]; exact List.mem_map.2 ⟨_, h, rfl⟩)
      show (TP ds (tm.setIfInBounds p.2 (f p.1)) f).setIfInBounds d v = TP ds (tm.setIfInBounds p.2 (upd f j v p.1)) (upd f j v)
      rw [TP_set j d v ds _ f n1.2 n2.2 h, show upd f j v p.1 = f p.1 from if_neg h1]

/-- all orders of some operations: whoever is ready is one of them, those that it leans on are done, and at the end lF is listed -/
def permOK (md : Region.Mode) (ops : Array Oper) (deps : List (Nat × Nat)) : Nat → List Nat → List Nat → Array Bool → Array Bool → Bool
  | 0, pend, _, l, lF => pend.isEmpty && l == lF
  | n + 1, pend, done, l, lF => !(Region.ready md ops l).isEmpty && (Region.ready md ops l).all fun j => pend.contains j && (deps.all fun p => p.1 != j || done.contains p.2) && permOK md ops deps n (pend.erase j) (j :: done) (l.setIfInBounds j true) lF
section
variable {P : Program} {ops : Array Oper} {md : Region.Mode} {Q : Exit → Act → World → Prop} {S : World → Prop} {z : Nat}
theorem wpAnyY_perm {fuel N : Nat} {l lF : Array Bool} {w0 : World} (ds deps : List (Nat × Nat)) (tm : Array Value) (R : Nat → Value → World → Prop) (hN : N = ds.length)
    (hok : permOK md ops deps N (ds.map (·.1)) [] l lF = true) (h1 : (ds.map (·.1)).Nodup) (h2 : (ds.map (·.2)).Nodup) (htm : TP ds tm (fun _ => undef) = tm)
    (hS : ∀ W, G w0 W → S W) (hR : ∀ p ∈ ds, ∀ v W W', R p.1 v W → G W W' → R p.1 v W')
    (hop : ∀ p ∈ ds, ∀ (f : Nat → Value) (W : World) (K' : Act → World → Prop), G w0 W → (∀ q ∈ deps, q.1 = p.1 → R q.2 (f q.2) W) →
      (∀ v W', G W W' → R p.1 v W' → K' ⟨(TP ds tm f).setIfInBounds p.2 v, []⟩ W') → ∃ o, ops[p.1]? = some o ∧ Region.wanted o (yielded ops (TP ds tm f)) = true ∧ Oper.wp P o ⟨TP ds tm f, []⟩ W K' Q)
    (hfin : ∀ (f : Nat → Value) (W : World), G w0 W → (∀ p ∈ ds, R p.1 (f p.1) W) → wpAnyY P md ops Q S z fuel lF ⟨TP ds tm f, []⟩ W) :
    wpAnyY P md ops Q S z (fuel + N) l ⟨tm, []⟩ w0 := by
  suffices key : ∀ (n : Nat) (pend done : List Nat) (l : Array Bool) (f : Nat → Value) (W : World), permOK md ops deps n pend done l lF = true → G w0 W → (∀ j ∈ done, R j (f j) W) → (∀ p ∈ ds, p.1 ∈ pend ∨ p.1 ∈ done) → (∀ j ∈ pend, ∃ d, (j, d) ∈ ds) → (∀ j ∈ done, ∃ d, (j, d) ∈ ds) → (∀ j ∈ pend, j ∉ done) → pend.Nodup →
      wpAnyY P md ops Q S z (fuel + n) l ⟨TP ds tm f, []⟩ W by
    have := key N (ds.map (·.1)) [] l (fun _ => undef) w0 hok (G.rf _) (fun _ h => by cases h) (fun p hp => .inl (List.mem_map.2 ⟨p, hp, rfl⟩)) (fun j hj => by obtain ⟨p, hp, rfl⟩ := List.mem_map.1 hj; exact ⟨p.2, hp⟩) (fun _ h => by cases h) (fun _ _ h => by cases h) h1
    rwa [htm] at this
  intro n
  induction n with
  | zero =>
    intro pend done l f W hk hG hd hall _ _ _ _
    simp only [permOK, Bool.and_eq_true, List.isEmpty_iff, beq_iff_eq] at hk
    obtain ⟨rfl, rfl⟩ := hk
    refine hfin f W hG fun p hp => ?_
    rcases hall p hp with h | h
    · cases h
    · exact hd _ h
  | succ n ih =>
    intro pend done l f W hk hG hd hall hpd hdd hnd hnp
    simp only [permOK, Bool.and_eq_true, Bool.not_eq_true', List.all_eq_true] at hk
    obtain ⟨hne, hrd⟩ := hk
    refine ⟨fun h0 => absurd hne (by rw [h0]; simp), fun j hj => ?_⟩
    obtain ⟨⟨hjp, hjd⟩, hrest⟩ := hrd j hj
    have hjp : j ∈ pend := by simpa using hjp
    obtain ⟨d, hjds⟩ := hpd j hjp
    obtain ⟨o, ho, hw, hwp⟩ := hop (j, d) hjds f W (fun a' w' => ((l.setIfInBounds j true).getD z false = false → S w') ∧ wpAnyY P md ops Q S z (fuel + n) (l.setIfInBounds j true) a' w') hG (fun q hq hqj => by
      have := hjd q hq
      simp only [Bool.or_eq_true, bne_iff_ne, ne_eq, List.contains_eq_mem, decide_eq_true_eq] at this
      exact hd _ (this.resolve_left fun h => h hqj)) (fun v W' hG' hv => by
      refine ⟨fun _ => hS _ (hG.t hG'), ?_⟩
      rw [TP_set j d v ds tm f h1 h2 hjds]
      refine ih (pend.erase j) (j :: done) _ (upd f j v) W' hrest (hG.t hG') (fun i hi => ?_) (fun p hp => ?_) (fun i hi => hpd i (List.mem_of_mem_erase hi)) (fun i hi => ?_) (fun i hi hid => ?_) (hnp.erase j)
      · rcases List.mem_cons.1 hi with rfl | hi
        · show R i (upd f i v i) W'
          rw [show upd f i v i = v from if_pos rfl]
          exact hv
        · have hij : i ≠ j := fun e => hnd j hjp (e ▸ hi)
          obtain ⟨di, hdi⟩ := hdd i hi
          rw [show upd f j v i = f i from if_neg hij]
          exact hR (i, di) hdi _ _ _ (hd i hi) hG'
      · by_cases e : p.1 = j
        · exact .inr (by rw [e]; exact List.mem_cons_self)
        · rcases hall p hp with h | h
          · exact .inl ((List.mem_erase_of_ne e).2 h)
          · exact .inr (List.mem_cons_of_mem _ h)
      · rcases List.mem_cons.1 hi with rfl | hi
        · exact ⟨d, hjds⟩
        · exact hdd i hi
      · rcases List.mem_cons.1 hid with rfl | hid
        · exact hnp.not_mem_erase hi
        · exact hnd i (List.mem_of_mem_erase hi) hid)
    exact wpOp_step ho fun K' hK' => by
      rw [if_pos hw]
      exact Oper.wp_mono (fun a w h => hK' a w h) hwp
end
end Go.Proofs.YtnkmcoljijmgpaaGreat
set_option linter.unusedSimpArgs false
set_option linter.unusedVariables false
namespace Go.Proofs.YtnkmcoljijmgpaaGreat
open Go.RowKit
attribute [local go_sem] Oper.semAt_some

def spanB (lo hi a b : Int) : Bool := decide (a ≤ lo) && (decide (lo ≤ hi) && decide (hi ≤ b))
theorem wrap_div (a b : Nat) (ha : a ≤ 9000000000000000000) : wrap64 ((a : Int) / b) = ((a / b : Nat) : Int) := by
  have h : a / b ≤ a := Nat.div_le_self _ _
  have e : (a : Int) / b = ((a / b : Nat) : Int) := by simp
  rw [e]
  generalize a / b = q at *
  exact IntWalk.wrap64_in _ (by omega)
end Go.Proofs.YtnkmcoljijmgpaaGreat
set_option linter.unusedSimpArgs false
set_option linter.unusedVariables false
namespace Go.Proofs.YtnkmcoljijmgpaaGreat
open Go.RowKit
attribute [local go_sem] Oper.semAt_some

theorem wrap_tdiv (a b : Nat) (ha : a ≤ 9000000000000000000) : wrap64 ((a : Int).tdiv b) = ((a / b : Nat) : Int) := by
  have h : a / b ≤ a := Nat.div_le_self _ _
  have e : (a : Int).tdiv b = ((a / b : Nat) : Int) := rfl
  rw [e]
  generalize a / b = q at *
  exact IntWalk.wrap64_in _ (by omega)
/-- the number after k of n steps -/
def btw (f t k n : Nat) : Nat := (2 * (f * (n - k) + t * k) + n) / (2 * n)
end Go.Proofs.YtnkmcoljijmgpaaGreat
set_option linter.unusedSimpArgs false
set_option linter.unusedVariables false
namespace Go.Proofs.YtnkmcoljijmgpaaGreat
open Go.RowKit
attribute [local go_sem] Oper.semAt_some

def dst (a b : Nat) : Nat := (a - b) + (b - a)
def stepsN (fx fy tx ty : Nat) : Nat := max (dst fx tx) (dst fy ty)
/-- the places of a way -/
def pbK (fx fy tx ty n k : Nat) : List (Nat × Nat) := (fx, fy) :: (List.range k).map fun j => (btw fx tx (j + 1) n, btw fy ty (j + 1) n)
theorem pbK_succ (fx fy tx ty n k : Nat) : pbK fx fy tx ty n (k + 1) = pbK fx fy tx ty n k ++ [(btw fx tx (k + 1) n, btw fy ty (k + 1) n)] := by
  unfold pbK
  rw [List.range_succ, List.map_append]
  rfl
theorem pbK_len (fx fy tx ty n k : Nat) : (pbK fx fy tx ty n k).length = k + 1 := by simp [pbK]
theorem max4 (a b c d n : Int) (w : World) (h1 : a ≤ n) (h2 : b ≤ n) (h3 : c ≤ n) (h4 : d ≤ n) (h : n = a ∨ n = b ∨ n = c ∨ n = d) : (Builtin.max_ #[3, 3, 3, 3] 3 #[.int .i64 a, .int .i64 b, .int .i64 c, .int .i64 d]).run Tryz.prog w = .ok (.int .i64 n) w := by
  simp only [Builtin.max_, List.foldlM]
  simp [go_sem, Builtin.max2]
  repeat' split
  all_goals omega
theorem steps_max (fx fy tx ty : Nat) : (tx : Int) - fx ≤ stepsN fx fy tx ty ∧ -((tx : Int) - fx) ≤ stepsN fx fy tx ty ∧ (ty : Int) - fy ≤ stepsN fx fy tx ty ∧ -((ty : Int) - fy) ≤ stepsN fx fy tx ty ∧ ((stepsN fx fy tx ty : Int) = (tx : Int) - fx ∨ (stepsN fx fy tx ty : Int) = -((tx : Int) - fx) ∨ (stepsN fx fy tx ty : Int) = (ty : Int) - fy ∨ (stepsN fx fy tx ty : Int) = -((ty : Int) - fy)) := by
  unfold stepsN dst
  omega
end Go.Proofs.YtnkmcoljijmgpaaGreat
set_option linter.unusedSimpArgs false
set_option linter.unusedVariables false
namespace Go.Proofs.YtnkmcoljijmgpaaGreat
open Go.RowKit
attribute [local go_sem] Oper.semAt_some

end Go.Proofs.YtnkmcoljijmgpaaGreat
set_option linter.unusedSimpArgs false
set_option linter.unusedVariables false
namespace Go.Proofs.YtnkmcoljijmgpaaGreat
open Go.RowKit
attribute [local go_sem] Oper.semAt_some

section
variable (north cols lofts wrong bx bY sl sh lw lg lh hours dark : Int) (ea : Option Addr) (el ec : Nat) (sv hv fv : Value)
end
end Go.Proofs.YtnkmcoljijmgpaaGreat
set_option linter.unusedSimpArgs false
set_option linter.unusedVariables false
namespace Go.Proofs.YtnkmcoljijmgpaaGreat
open Go.RowKit
attribute [local go_sem] Oper.semAt_some

/-- a slice of elements of so many numbers each -/
def RowAt (W : World) (a : Option Addr) (n z : Nat) (c : Nat → Nat → Int) : Prop := n = 0 ∨ ∃ g off, a = some ⟨g, off, none⟩ ∧ g < W.heap.size ∧ ∀ i, i < n → ∀ r, r < z → W.cell? ⟨g, off + i * z + r, none⟩ = some (.int .i64 (c i r))
theorem RowAt.below {W W' : World} {a : Option Addr} {n z : Nat} {c : Nat → Nat → Int} (h : RowAt W a n z c) (hG : G W W') : RowAt W' a n z c := by
  rcases h with h | ⟨g, off, h1, h2, h3⟩
  · exact .inl h
  · exact .inr ⟨g, off, h1, Nat.lt_of_lt_of_le h2 hG.size, fun i hi r hr => ((bcellB hG).1 g _ h2).trans (h3 i hi r hr)⟩
/-- what a valid release is, but for its map and its fronts -/
structure RelOk (cols : Int) (el : Nat) (bx bY sl sh lw lg lh hours dark : Int) (n : Nat) (h : Nat → Nat → Int) : Prop where
  base : isPlaceB cols el bx bY = true
  many : n ≤ 6
  homes : ∀ i, i < n → isPlaceB cols el (h i 0) (h i 1) = true
  speed : spanB sl sh 1 3000000 = true
  wind : isInB lw 0 999 = true
  sight : isInB lg 0 999 = true
  heat : isInB lh 0 999 = true
  hrs : isInB hours 1 12 = true
  drk : isInB dark 0 9999 = true
structure FrontOk (cols : Int) (el : Nat) (hours : Int) (d : Nat → Int) : Prop where
  h1 : spanB (d 0) (d 1) 0 (hours - 1) = true
  h2 : spanB (d 2) (d 3) 0 (cols - 1) = true
  h3 : spanB (d 4) (d 5) 0 ((el : Int) - 1) = true
  h4 : spanB (d 6) (d 7) 0 999 = true
  h5 : spanB (d 8) (d 9) 0 999 = true
  h6 : spanB (d 10) (d 11) 0 999 = true
section
variable (north cols lofts wrong bx bY sl sh lw lg lh hours dark : Int) (east : List Int) (svs : List Sv) (n k : Nat) (h f : Nat → Nat → Int) (ea sa ha fa : Option Addr) (ec sc hc fc : Nat) (W : World)
end
end Go.Proofs.YtnkmcoljijmgpaaGreat
set_option linter.unusedSimpArgs false
set_option linter.unusedVariables false
namespace Go.Proofs.YtnkmcoljijmgpaaGreat
open Go.RowKit
attribute [local go_sem] Oper.semAt_some

/-- what is known of the weather: the winds, the sights, the heats from and to -/
structure Sk where
  wl : Int
  wh : Int
  sl : Int
  sh : Int
  hl : Int
  hh : Int
def Sk.v (s : Sk) : Array Value := #[.int .i64 s.wl, .int .i64 s.wh, .int .i64 s.sl, .int .i64 s.sh, .int .i64 s.hl, .int .i64 s.hh]
def Sk.both (a b : Sk) : Sk := ⟨max a.wl b.wl, min a.wh b.wh, max a.sl b.sl, min a.sh b.sh, max a.hl b.hl, min a.hh b.hh⟩
def skAny : Sk := ⟨0, 999, 0, 999, 0, 999⟩
def skNone (s : Sk) : Bool := decide (s.wh < s.wl) || (decide (s.sh < s.sl) || decide (s.hh < s.hl))
def skLim (lw lg lh : Int) : Sk := ⟨0, lw, lg, 999, 0, lh⟩
def skEq (a b : Sk) : Bool := (a.wl == b.wl && a.wh == b.wh) && ((a.sl == b.sl && a.sh == b.sh) && (a.hl == b.hl && a.hh == b.hh))
def skIn (s l : Sk) : Bool := skEq (s.both l) s
def skOut (s l : Sk) : Bool := skNone (s.both l)

theorem max2 (a b : Int) (w : World) : (Builtin.max_ #[3, 3] 3 #[.int .i64 a, .int .i64 b]).run Tryz.prog w = .ok (.int .i64 (max a b)) w := by
  simp only [Builtin.max_, List.foldlM]
  simp [go_sem, Builtin.max2]
  split <;> omega
theorem min2 (a b : Int) (w : World) : (Builtin.min_ #[3, 3] 3 #[.int .i64 a, .int .i64 b]).run Tryz.prog w = .ok (.int .i64 (min a b)) w := by
  simp only [Builtin.min_, List.foldlM]
  simp [go_sem, Builtin.min2]
  split <;> omega
theorem resSpan (f : Func) (t : Nat) (tmps : Array Value) (w : World) (g : Nat) (x y : Int) (hr : f.results = #[.cell t 62]) (h : tmps.getD t undef = .pointer (some ⟨g, 0, none⟩)) (c0 : w.cell? ⟨g, 0, none⟩ = some (.int .i64 x)) (c1 : w.cell? ⟨g, 1, none⟩ = some (.int .i64 y)) :
    (results f tmps).run Tryz.prog w = .ok (.agg #[.int .i64 x, .int .i64 y]) w := by
  have h' : tmps[t]?.getD undef = .pointer (some ⟨g, 0, none⟩) := by simpa using h
  simp only [results, hr]
  go_simp
theorem w3_spec6 (w : World) (c0 c1 c2 : Array Value) (t0 t1 t2 : TypeId) : G w (((w.alloc (.cells c0 t0)).alloc (.cells c1 t1)).alloc (.cells c2 t2)) ∧ Blk (((w.alloc (.cells c0 t0)).alloc (.cells c1 t1)).alloc (.cells c2 t2)) w.heap.size t0 c0 ∧ Blk (((w.alloc (.cells c0 t0)).alloc (.cells c1 t1)).alloc (.cells c2 t2)) (w.heap.size + 1) t1 c1 ∧ Blk (((w.alloc (.cells c0 t0)).alloc (.cells c1 t1)).alloc (.cells c2 t2)) (w.heap.size + 1 + 1) t2 c2 :=
  ⟨(((G.rf _).a _).a _).a _, ((Blk.new w t0 c0).alloc _).alloc _, (Blk.new1 w _ t1 c1).alloc _, Blk.new2 w _ _ t2 c2⟩
end Go.Proofs.YtnkmcoljijmgpaaGreat
set_option linter.unusedSimpArgs false
set_option linter.unusedVariables false
namespace Go.Proofs.YtnkmcoljijmgpaaGreat
open Go.RowKit
attribute [local go_sem] Oper.semAt_some

theorem far_trans {W W1 : World} {g : Nat} (h : ∀ b, b ≠ g → W1.heap[b]? = W.heap[b]?) (i : Nat) (u : Value) : ∀ b, b ≠ g → (W1.setCell ⟨g, i, none⟩ u).heap[b]? = W.heap[b]? := fun b hb => (Below.heap_setCell W1 ⟨g, i, none⟩ u b hb).trans (h b hb)
theorem Blk.awayB {W W2 : World} {b g : Nat} {t : TypeId} {cs : Array Value} (hb : Blk W b t cs) (hne : b ≠ g) (hF : ∀ b, b ≠ g → W2.heap[b]? = W.heap[b]?) : Blk W2 b t cs := by
  unfold Blk at *
  rw [hF b hne]
  exact hb
section
variable {P : Program} {w : World} {ops : Array Oper} {rest : List Oper} {o : Oper} {a : Act} {Q : Exit → Act → World → Prop}
end
def sk0 : Sk := ⟨0, 0, 0, 0, 0, 0⟩

end Go.Proofs.YtnkmcoljijmgpaaGreat
set_option linter.unusedSimpArgs false
set_option linter.unusedVariables false
namespace Go.Proofs.YtnkmcoljijmgpaaGreat
open Go.RowKit
attribute [local go_sem] Oper.semAt_some
theorem eqSp (d : Nat) (a b c e : Int) (w : World) : (Op.equalIn (d + 1 + 1) 62 (.agg #[.int .i64 a, .int .i64 b]) (.agg #[.int .i64 c, .int .i64 e])).run Tryz.prog w = .ok (a == c && b == e) w := by
  have u3 := Tryz.underlying3
  have hS : Tryz.prog.underlying 62 = some (.struct (Tryz.prog.fieldsOf 62)) := by kernel_rfl
  have hp : Tryz.prog.stoodInHeld 62 = false := by kernel_rfl
  rw [run_equalIn_agg w (d + 1) 62 _ _ hS hp]
  simp only [Program.fieldsOf, Tryz.underlying62]
  go_simp
  by_cases h1 : a = c <;> by_cases h2 : b = e <;> simp [h1, h2]
/-- a number of the first n for which p says yes -/
def anyU (p : Nat → Bool) (n : Nat) : Bool := (List.range n).any p
theorem anyU_no {p : Nat → Bool} {n : Nat} (h : ∀ i, i < n → p i = false) : anyU p n = false := by
  unfold anyU
  rw [List.any_eq_false]
  intro x hx
  simp [h x (List.mem_range.1 hx)]
theorem anyU_yes {p : Nat → Bool} {n i : Nat} (hi : i < n) (h : p i = true) : anyU p n = true := by
  unfold anyU
  rw [List.any_eq_true]
  exact ⟨i, List.mem_range.2 hi, h⟩
def skC (s : Sk) (j : Nat) : Int := [s.wl, s.wh, s.sl, s.sh, s.hl, s.hh].getD j 0
end Go.Proofs.YtnkmcoljijmgpaaGreat
set_option linter.unusedSimpArgs false
set_option linter.unusedVariables false
namespace Go.Proofs.YtnkmcoljijmgpaaGreat
open Go.RowKit
attribute [local go_sem] Oper.semAt_some
end Go.Proofs.YtnkmcoljijmgpaaGreat
