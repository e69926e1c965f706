import Derived.Below
import Derived.BigQuiet
import Derived.Deep.AppendLies
import Derived.Deep.Draws
import Derived.Deep.QuietTactic
import Derived.Deep.RegionHeld
import Derived.Deep.Slices
import Derived.Ground.Names2Prog
import Derived.Ground.SlsfProg
import Derived.Ground.SlsoProg
import Derived.IntWalk
import Derived.Laws.AppendOwn
import Derived.Laws.AppendOwnNone
import Derived.Laws.Bits128
import Derived.Laws.OwnMore
import Derived.Laws.Rows
import Derived.Laws.StructEq
import Derived.Lib.Hide
import Derived.Lib.SlKeysI
import Derived.Lib.SliceRun
import Derived.Lib.SmallJoins
import Derived.LoopIn
import Derived.LoopNIn
import Derived.Maps.RangeWalk
import Derived.OpenShut
import Derived.OrdersHeld
import Derived.OrdersIn
import Derived.Outline
import Derived.OwnWalkIn
import Derived.ProofKit
import Derived.RangeFuncBound
import Derived.RangeFuncCalls
import Derived.RangeFuncLeaves
import Derived.RangeFuncNested
import Derived.Shelf.Abstract
import Derived.Shelf.GgSortFunc.InsertionK
import Derived.Shelf.RegionOpen
import Derived.Shelf.SlSortCmp.NoneTotal
import Derived.Shelf.SlSortCmp.WholeK
import Derived.Shelf.SlSorted.Search
import Derived.Shelf.Slices.Cells
import Derived.Shelf.Slices.CompactI
import Derived.Shelf.Slices.In.SortNone
import Derived.Shelf.Slices.SearchI
import Derived.Shelf.Small.Bits
import Derived.Shelf.Sort.Plain
import Derived.Shelf.Strconv.Itoa0
import Derived.Sort.Grow
import Derived.Sort.MapsRangeIn
import Derived.TacticsIn
import Derived.TacticsInMore
import Derived.Test.YtnkmcoljijmgpaaGreatProg
import Derived.WalkKit
import Derived.WalkSpells
import Derived.Test.YtnkmcoljijmgpaaGreatS3
set_option linter.unusedSimpArgs false
set_option linter.unusedVariables false
namespace Go.Proofs.YtnkmcoljijmgpaaGreat
open Go.RowKit Go.Shelf
attribute [local go_sem] Oper.semAt_some
/-- operation z waits for i over these -/
def pathB (md : Region.Mode) (ops : Array Oper) : List Nat → Nat → Nat → Bool
  | [], z, i => match ops[z]? with | some o => o.after.any fun e => Region.binds md e && e.on == i | none => false
  | k :: ks, z, i => (match ops[z]? with | some o => o.after.any fun e => Region.binds md e && e.on == k | none => false) && pathB md ops ks k i
theorem pathB_waits {md : Region.Mode} {ops : Array Oper} : ∀ (ks : List Nat) (n z i : Nat), ks.length < n → pathB md ops ks z i = true → waitsT md ops n z i = true
  | [], 0, _, _, h, _ => by simp at h
  | [], n + 1, z, i, _, h => by
    unfold pathB at h
    unfold waitsT
    cases ho : ops[z]? with
    | none => rw [ho] at h; cases h
    | some o =>
      rw [ho] at h
      simp only [Array.any_eq_true, Bool.and_eq_true, beq_iff_eq] at h ⊢
      obtain ⟨k, hk, hb, he⟩ := h
      exact ⟨k, hk, hb, by simp [he]⟩
  | k :: ks, 0, _, _, h, _ => by simp at h
  | k :: ks, n + 1, z, i, hn, h => by
    unfold pathB at h
    rw [Bool.and_eq_true] at h
    have ih := pathB_waits ks n k i (by simpa using hn) h.2
    unfold waitsT
    cases ho : ops[z]? with
    | none => rw [ho] at h; cases h.1
    | some o =>
      have h1 := h.1
      rw [ho] at h1
      simp only [Array.any_eq_true, Bool.and_eq_true, beq_iff_eq] at h1 ⊢
      obtain ⟨j, hj, hb, he⟩ := h1
      exact ⟨j, hj, hb, by rw [he, ih]; simp⟩
/-- an operation may be taken first: all that is asked of the schedule -/
def chk (md : Region.Mode) (ops : Array Oper) (z : Nat) (ks : List Nat) (l : Array Bool) (i : Nat) (l' : Array Bool) : Bool :=
  Region.noSelect ops && Region.free md ops l i && (Region.ready md ops l).contains i && (decide (i ≠ z) && (decide (ks.length < 40) && pathB md ops ks z i && (closedB md ops l && !l.getD z false))) && (l.setIfInBounds i true == l')
section
variable {P : Program} {ops : Array Oper} {md : Region.Mode} {Q : Exit → Act → World → Prop} {S : World → Prop} {z : Nat}
theorem wpAnyY_takeC {i : Nat} {oi : Oper} {v : Value} {fuel : Nat} {l l' : Array Bool} {a : Act} {w : World} (ks : List Nat) (hc : chk md ops z ks l i l' = true) (hi : ops[i]? = some oi) (hQ : ∀ c a w, Q (.panic c) (a.put oi.dst v) w → Q (.panic c) a w) (hy : YieldsIf P ops S oi v a) (hS : S w)
    (h : wpAnyY P md ops Q S z fuel l' (a.put oi.dst v) w) : wpAnyY P md ops Q S z (fuel + 1) l a w := by
  unfold chk at hc
  simp only [Bool.and_eq_true, decide_eq_true_eq, beq_iff_eq, Bool.not_eq_true'] at hc
  obtain ⟨⟨⟨⟨h1, h2⟩, h3⟩, h4, ⟨h5, h6⟩, h7, h8⟩, rfl⟩ := hc
  exact wpAnyY_first hi h1 h4 (pathB_waits ks 40 z i h5 h6) hQ fuel l a w (closed_of_B h7) h8 (Region.free_spec hi h2) (by simpa using h3) hy hS h
/-- one operation alone may come up -/
def chk1 (md : Region.Mode) (ops : Array Oper) (l : Array Bool) (i : Nat) (l' : Array Bool) : Bool := (Region.ready md ops l == [i]) && (l.setIfInBounds i true == l')
theorem wpAnyY_oneSWC {i : Nat} {o : Oper} {fuel : Nat} {l l' : Array Bool} {a : Act} {w : World} (hc : chk1 md ops l i l' = true) (ho : ops[i]? = some o) (hw : Region.wanted o (yielded ops a.tmps) = true)
    (h : ∀ K' : Act → World → Prop, Shut (∀ a w, S w → (S w → wpAnyY P md ops Q S z fuel l' a w) → K' a w) → Oper.wp P o a w K' Q) :
    wpAnyY P md ops Q S z (fuel + 1) l a w := by
  unfold chk1 at hc
  rw [Bool.and_eq_true, beq_iff_eq, beq_iff_eq] at hc
  obtain ⟨h1, rfl⟩ := hc
  exact wpAnyY_oneSW h1 ho hw h
theorem wpAnyY_oneSUC {i : Nat} {o : Oper} {fuel : Nat} {l l' : Array Bool} {a : Act} {w : World} (hc : chk1 md ops l i l' = true) (ho : ops[i]? = some o) (hw : Region.wanted o (yielded ops a.tmps) = false) (hS : S w)
    (h : wpAnyY P md ops Q S z fuel l' (a.put o.dst undef) w) : wpAnyY P md ops Q S z (fuel + 1) l a w := by
  unfold chk1 at hc
  rw [Bool.and_eq_true, beq_iff_eq, beq_iff_eq] at hc
  obtain ⟨h1, rfl⟩ := hc
  exact wpAnyY_oneSU h1 ho hw hS h
end
set_option maxRecDepth 100000
def opsA4 : Array Oper := #[{ dst := some 14, op := Go.Op.fieldAddr 60 (Go.Operand.tmp 2) 4, type := 0, pos := "ref.go:25", after := #[], guard := none }, { dst := some 15, op := Go.Op.load 24 (Go.Operand.tmp 14), type := 24, pos := "ref.go:25", after := #[{ on := 0, ground := Go.Ground.data }], guard := none }, { dst := some 16, op := Go.Op.move (Go.Operand.tmp 5), type := 3, pos := "ref.go:25", after := #[], guard := none }, { dst := some 17, op := Go.Op.indexAddr 24 (Go.Operand.tmp 15) (Go.Operand.tmp 16), type := 0, pos := "ref.go:25", after := #[{ on := 1, ground := Go.Ground.data }, { on := 2, ground := Go.Ground.data }], guard := none }, { dst := some 18, op := Go.Op.load 3 (Go.Operand.tmp 17), type := 3, pos := "ref.go:25", after := #[{ on := 3, ground := Go.Ground.data }], guard := none }, { dst := some 19, op := Go.Op.move (Go.Operand.tmp 1), type := 3, pos := "ref.go:25", after := #[], guard := none }, { dst := some 20, op := Go.Op.binOp Go.BinOp.sub 3 (Go.Operand.tmp 19) (Go.Operand.const (Go.Value.int Go.IntKind.i64 1)) 3, type := 3, pos := "ref.go:25", after := #[{ on := 5, ground := Go.Ground.data }], guard := none }, { dst := some 21, op := Go.Op.call { callee := Go.Callee.value (Go.Operand.func 69), args := #[Go.Operand.tmp 18, Go.Operand.const (Go.Value.int Go.IntKind.i64 0), Go.Operand.tmp 20], argTypes := #[3, 3, 3] }, type := 4, pos := "ref.go:25", after := #[{ on := 4, ground := Go.Ground.data }, { on := 6, ground := Go.Ground.data }], guard := none }, { dst := some 22, op := Go.Op.unOp Go.UnOp.not 4 (Go.Operand.tmp 21), type := 4, pos := "ref.go:25", after := #[{ on := 7, ground := Go.Ground.data }], guard := none }, { dst := some 23, op := Go.Op.move (Go.Operand.tmp 22), type := 4, pos := "ref.go:25", after := #[{ on := 8, ground := Go.Ground.data }, { on := 7, ground := Go.Ground.chain }], guard := none }, { dst := some 24, op := Go.Op.move (Go.Operand.tmp 5), type := 3, pos := "ref.go:25", after := #[{ on := 9, ground := Go.Ground.guard }], guard := some (9, false) }, { dst := some 25, op := Go.Op.binOp Go.BinOp.gtr 3 (Go.Operand.tmp 24) (Go.Operand.const (Go.Value.int Go.IntKind.i64 0)) 3, type := 4, pos := "ref.go:25", after := #[{ on := 10, ground := Go.Ground.data }, { on := 9, ground := Go.Ground.guard }], guard := some (9, false) }, { dst := some 26, op := Go.Op.move (Go.Operand.tmp 25), type := 4, pos := "ref.go:25", after := #[{ on := 11, ground := Go.Ground.data }, { on := 9, ground := Go.Ground.chain }, { on := 9, ground := Go.Ground.guard }], guard := some (9, false) }, { dst := some 27, op := Go.Op.fieldAddr 60 (Go.Operand.tmp 2) 4, type := 0, pos := "ref.go:25", after := #[{ on := 12, ground := Go.Ground.guard }], guard := some (12, true) }, { dst := some 28, op := Go.Op.load 24 (Go.Operand.tmp 27), type := 24, pos := "ref.go:25", after := #[{ on := 13, ground := Go.Ground.data }, { on := 12, ground := Go.Ground.guard }], guard := some (12, true) }, { dst := some 29, op := Go.Op.move (Go.Operand.tmp 5), type := 3, pos := "ref.go:25", after := #[{ on := 12, ground := Go.Ground.guard }], guard := some (12, true) }, { dst := some 30, op := Go.Op.indexAddr 24 (Go.Operand.tmp 28) (Go.Operand.tmp 29), type := 0, pos := "ref.go:25", after := #[{ on := 14, ground := Go.Ground.data }, { on := 15, ground := Go.Ground.data }, { on := 12, ground := Go.Ground.guard }], guard := some (12, true) }, { dst := some 31, op := Go.Op.load 3 (Go.Operand.tmp 30), type := 3, pos := "ref.go:25", after := #[{ on := 16, ground := Go.Ground.data }, { on := 12, ground := Go.Ground.guard }], guard := some (12, true) }, { dst := some 32, op := Go.Op.fieldAddr 60 (Go.Operand.tmp 2) 4, type := 0, pos := "ref.go:25", after := #[{ on := 12, ground := Go.Ground.guard }], guard := some (12, true) }, { dst := some 33, op := Go.Op.load 24 (Go.Operand.tmp 32), type := 24, pos := "ref.go:25", after := #[{ on := 18, ground := Go.Ground.data }, { on := 12, ground := Go.Ground.guard }], guard := some (12, true) }, { dst := some 34, op := Go.Op.move (Go.Operand.tmp 5), type := 3, pos := "ref.go:25", after := #[{ on := 12, ground := Go.Ground.guard }], guard := some (12, true) }, { dst := some 35, op := Go.Op.binOp Go.BinOp.sub 3 (Go.Operand.tmp 34) (Go.Operand.const (Go.Value.int Go.IntKind.i64 1)) 3, type := 3, pos := "ref.go:25", after := #[{ on := 20, ground := Go.Ground.data }, { on := 12, ground := Go.Ground.guard }], guard := some (12, true) }, { dst := some 36, op := Go.Op.indexAddr 24 (Go.Operand.tmp 33) (Go.Operand.tmp 35), type := 0, pos := "ref.go:25", after := #[{ on := 19, ground := Go.Ground.data }, { on := 21, ground := Go.Ground.data }, { on := 12, ground := Go.Ground.guard }], guard := some (12, true) }, { dst := some 37, op := Go.Op.load 3 (Go.Operand.tmp 36), type := 3, pos := "ref.go:25", after := #[{ on := 22, ground := Go.Ground.data }, { on := 12, ground := Go.Ground.guard }], guard := some (12, true) }, { dst := some 38, op := Go.Op.binOp Go.BinOp.leq 3 (Go.Operand.tmp 31) (Go.Operand.tmp 37) 3, type := 4, pos := "ref.go:25", after := #[{ on := 17, ground := Go.Ground.data }, { on := 23, ground := Go.Ground.data }, { on := 12, ground := Go.Ground.guard }], guard := some (12, true) }, { dst := some 39, op := Go.Op.pick (Go.Operand.tmp 26) (Go.Operand.tmp 38) (Go.Operand.const (Go.Value.bool false)), type := 4, pos := "ref.go:25", after := #[{ on := 12, ground := Go.Ground.data }, { on := 24, ground := Go.Ground.data }, { on := 9, ground := Go.Ground.guard }], guard := some (9, false) }, { dst := some 40, op := Go.Op.pick (Go.Operand.tmp 23) (Go.Operand.const (Go.Value.bool true)) (Go.Operand.tmp 39), type := 4, pos := "ref.go:25", after := #[{ on := 9, ground := Go.Ground.data }, { on := 25, ground := Go.Ground.data }], guard := none }]
theorem rA4o_0 : opsA4[0]? = some { dst := some 14, op := Go.Op.fieldAddr 60 (Go.Operand.tmp 2) 4, type := 0, pos := "ref.go:25", after := #[], guard := none } := rfl
theorem rA4o_1 : opsA4[1]? = some { dst := some 15, op := Go.Op.load 24 (Go.Operand.tmp 14), type := 24, pos := "ref.go:25", after := #[{ on := 0, ground := Go.Ground.data }], guard := none } := rfl
theorem rA4o_2 : opsA4[2]? = some { dst := some 16, op := Go.Op.move (Go.Operand.tmp 5), type := 3, pos := "ref.go:25", after := #[], guard := none } := rfl
theorem rA4o_3 : opsA4[3]? = some { dst := some 17, op := Go.Op.indexAddr 24 (Go.Operand.tmp 15) (Go.Operand.tmp 16), type := 0, pos := "ref.go:25", after := #[{ on := 1, ground := Go.Ground.data }, { on := 2, ground := Go.Ground.data }], guard := none } := rfl
theorem rA4o_4 : opsA4[4]? = some { dst := some 18, op := Go.Op.load 3 (Go.Operand.tmp 17), type := 3, pos := "ref.go:25", after := #[{ on := 3, ground := Go.Ground.data }], guard := none } := rfl
theorem rA4o_5 : opsA4[5]? = some { dst := some 19, op := Go.Op.move (Go.Operand.tmp 1), type := 3, pos := "ref.go:25", after := #[], guard := none } := rfl
theorem rA4o_6 : opsA4[6]? = some { dst := some 20, op := Go.Op.binOp Go.BinOp.sub 3 (Go.Operand.tmp 19) (Go.Operand.const (Go.Value.int Go.IntKind.i64 1)) 3, type := 3, pos := "ref.go:25", after := #[{ on := 5, ground := Go.Ground.data }], guard := none } := rfl
theorem rA4o_7 : opsA4[7]? = some { dst := some 21, op := Go.Op.call { callee := Go.Callee.value (Go.Operand.func 69), args := #[Go.Operand.tmp 18, Go.Operand.const (Go.Value.int Go.IntKind.i64 0), Go.Operand.tmp 20], argTypes := #[3, 3, 3] }, type := 4, pos := "ref.go:25", after := #[{ on := 4, ground := Go.Ground.data }, { on := 6, ground := Go.Ground.data }], guard := none } := rfl
theorem rA4o_8 : opsA4[8]? = some { dst := some 22, op := Go.Op.unOp Go.UnOp.not 4 (Go.Operand.tmp 21), type := 4, pos := "ref.go:25", after := #[{ on := 7, ground := Go.Ground.data }], guard := none } := rfl
theorem rA4o_9 : opsA4[9]? = some { dst := some 23, op := Go.Op.move (Go.Operand.tmp 22), type := 4, pos := "ref.go:25", after := #[{ on := 8, ground := Go.Ground.data }, { on := 7, ground := Go.Ground.chain }], guard := none } := rfl
theorem rA4o_10 : opsA4[10]? = some { dst := some 24, op := Go.Op.move (Go.Operand.tmp 5), type := 3, pos := "ref.go:25", after := #[{ on := 9, ground := Go.Ground.guard }], guard := some (9, false) } := rfl
theorem rA4o_11 : opsA4[11]? = some { dst := some 25, op := Go.Op.binOp Go.BinOp.gtr 3 (Go.Operand.tmp 24) (Go.Operand.const (Go.Value.int Go.IntKind.i64 0)) 3, type := 4, pos := "ref.go:25", after := #[{ on := 10, ground := Go.Ground.data }, { on := 9, ground := Go.Ground.guard }], guard := some (9, false) } := rfl
theorem rA4o_12 : opsA4[12]? = some { dst := some 26, op := Go.Op.move (Go.Operand.tmp 25), type := 4, pos := "ref.go:25", after := #[{ on := 11, ground := Go.Ground.data }, { on := 9, ground := Go.Ground.chain }, { on := 9, ground := Go.Ground.guard }], guard := some (9, false) } := rfl
theorem rA4o_13 : opsA4[13]? = some { dst := some 27, op := Go.Op.fieldAddr 60 (Go.Operand.tmp 2) 4, type := 0, pos := "ref.go:25", after := #[{ on := 12, ground := Go.Ground.guard }], guard := some (12, true) } := rfl
theorem rA4o_14 : opsA4[14]? = some { dst := some 28, op := Go.Op.load 24 (Go.Operand.tmp 27), type := 24, pos := "ref.go:25", after := #[{ on := 13, ground := Go.Ground.data }, { on := 12, ground := Go.Ground.guard }], guard := some (12, true) } := rfl
theorem rA4o_15 : opsA4[15]? = some { dst := some 29, op := Go.Op.move (Go.Operand.tmp 5), type := 3, pos := "ref.go:25", after := #[{ on := 12, ground := Go.Ground.guard }], guard := some (12, true) } := rfl
theorem rA4o_16 : opsA4[16]? = some { dst := some 30, op := Go.Op.indexAddr 24 (Go.Operand.tmp 28) (Go.Operand.tmp 29), type := 0, pos := "ref.go:25", after := #[{ on := 14, ground := Go.Ground.data }, { on := 15, ground := Go.Ground.data }, { on := 12, ground := Go.Ground.guard }], guard := some (12, true) } := rfl
theorem rA4o_17 : opsA4[17]? = some { dst := some 31, op := Go.Op.load 3 (Go.Operand.tmp 30), type := 3, pos := "ref.go:25", after := #[{ on := 16, ground := Go.Ground.data }, { on := 12, ground := Go.Ground.guard }], guard := some (12, true) } := rfl
theorem rA4o_18 : opsA4[18]? = some { dst := some 32, op := Go.Op.fieldAddr 60 (Go.Operand.tmp 2) 4, type := 0, pos := "ref.go:25", after := #[{ on := 12, ground := Go.Ground.guard }], guard := some (12, true) } := rfl
theorem rA4o_19 : opsA4[19]? = some { dst := some 33, op := Go.Op.load 24 (Go.Operand.tmp 32), type := 24, pos := "ref.go:25", after := #[{ on := 18, ground := Go.Ground.data }, { on := 12, ground := Go.Ground.guard }], guard := some (12, true) } := rfl
theorem rA4o_20 : opsA4[20]? = some { dst := some 34, op := Go.Op.move (Go.Operand.tmp 5), type := 3, pos := "ref.go:25", after := #[{ on := 12, ground := Go.Ground.guard }], guard := some (12, true) } := rfl
theorem rA4o_21 : opsA4[21]? = some { dst := some 35, op := Go.Op.binOp Go.BinOp.sub 3 (Go.Operand.tmp 34) (Go.Operand.const (Go.Value.int Go.IntKind.i64 1)) 3, type := 3, pos := "ref.go:25", after := #[{ on := 20, ground := Go.Ground.data }, { on := 12, ground := Go.Ground.guard }], guard := some (12, true) } := rfl
theorem rA4o_22 : opsA4[22]? = some { dst := some 36, op := Go.Op.indexAddr 24 (Go.Operand.tmp 33) (Go.Operand.tmp 35), type := 0, pos := "ref.go:25", after := #[{ on := 19, ground := Go.Ground.data }, { on := 21, ground := Go.Ground.data }, { on := 12, ground := Go.Ground.guard }], guard := some (12, true) } := rfl
theorem rA4o_23 : opsA4[23]? = some { dst := some 37, op := Go.Op.load 3 (Go.Operand.tmp 36), type := 3, pos := "ref.go:25", after := #[{ on := 22, ground := Go.Ground.data }, { on := 12, ground := Go.Ground.guard }], guard := some (12, true) } := rfl
theorem rA4o_24 : opsA4[24]? = some { dst := some 38, op := Go.Op.binOp Go.BinOp.leq 3 (Go.Operand.tmp 31) (Go.Operand.tmp 37) 3, type := 4, pos := "ref.go:25", after := #[{ on := 17, ground := Go.Ground.data }, { on := 23, ground := Go.Ground.data }, { on := 12, ground := Go.Ground.guard }], guard := some (12, true) } := rfl
theorem rA4o_25 : opsA4[25]? = some { dst := some 39, op := Go.Op.pick (Go.Operand.tmp 26) (Go.Operand.tmp 38) (Go.Operand.const (Go.Value.bool false)), type := 4, pos := "ref.go:25", after := #[{ on := 12, ground := Go.Ground.data }, { on := 24, ground := Go.Ground.data }, { on := 9, ground := Go.Ground.guard }], guard := some (9, false) } := rfl
theorem rA4o_26 : opsA4[26]? = some { dst := some 40, op := Go.Op.pick (Go.Operand.tmp 23) (Go.Operand.const (Go.Value.bool true)) (Go.Operand.tmp 39), type := 4, pos := "ref.go:25", after := #[{ on := 9, ground := Go.Ground.data }, { on := 25, ground := Go.Ground.data }], guard := none } := rfl
theorem rA4_0 : chk .any opsA4 26 [9, 7, 4, 3, 1] #[false, false, false, false, false, false, false, false, false, false, false, false, false, false, false, false, false, false, false, false, false, false, false, false, false, false, false] 0 #[true, false, false, false, false, false, false, false, false, false, false, false, false, false, false, false, false, false, false, false, false, false, false, false, false, false, false] = true := by kernel_rfl
theorem rA4_1 : chk .any opsA4 26 [9, 7, 4, 3] #[true, false, false, false, false, false, false, false, false, false, false, false, false, false, false, false, false, false, false, false, false, false, false, false, false, false, false] 1 #[true, true, false, false, false, false, false, false, false, false, false, false, false, false, false, false, false, false, false, false, false, false, false, false, false, false, false] = true := by kernel_rfl
theorem rA4_2 : chk .any opsA4 26 [9, 7, 4, 3] #[true, true, false, false, false, false, false, false, false, false, false, false, false, false, false, false, false, false, false, false, false, false, false, false, false, false, false] 2 #[true, true, true, false, false, false, false, false, false, false, false, false, false, false, false, false, false, false, false, false, false, false, false, false, false, false, false] = true := by kernel_rfl
theorem rA4_3 : chk .any opsA4 26 [9, 7, 4] #[true, true, true, false, false, false, false, false, false, false, false, false, false, false, false, false, false, false, false, false, false, false, false, false, false, false, false] 3 #[true, true, true, true, false, false, false, false, false, false, false, false, false, false, false, false, false, false, false, false, false, false, false, false, false, false, false] = true := by kernel_rfl
theorem rA4_4 : chk .any opsA4 26 [9, 7] #[true, true, true, true, false, false, false, false, false, false, false, false, false, false, false, false, false, false, false, false, false, false, false, false, false, false, false] 4 #[true, true, true, true, true, false, false, false, false, false, false, false, false, false, false, false, false, false, false, false, false, false, false, false, false, false, false] = true := by kernel_rfl
theorem rA4_5 : chk .any opsA4 26 [9, 7, 6] #[true, true, true, true, true, false, false, false, false, false, false, false, false, false, false, false, false, false, false, false, false, false, false, false, false, false, false] 5 #[true, true, true, true, true, true, false, false, false, false, false, false, false, false, false, false, false, false, false, false, false, false, false, false, false, false, false] = true := by kernel_rfl
theorem rA4_6 : chk .any opsA4 26 [9, 7] #[true, true, true, true, true, true, false, false, false, false, false, false, false, false, false, false, false, false, false, false, false, false, false, false, false, false, false] 6 #[true, true, true, true, true, true, true, false, false, false, false, false, false, false, false, false, false, false, false, false, false, false, false, false, false, false, false] = true := by kernel_rfl
theorem rA4_7 : chk1 .any opsA4 #[true, true, true, true, true, true, true, false, false, false, false, false, false, false, false, false, false, false, false, false, false, false, false, false, false, false, false] 7 #[true, true, true, true, true, true, true, true, false, false, false, false, false, false, false, false, false, false, false, false, false, false, false, false, false, false, false] = true := by kernel_rfl
theorem rA4_8 : chk .any opsA4 26 [9] #[true, true, true, true, true, true, true, true, false, false, false, false, false, false, false, false, false, false, false, false, false, false, false, false, false, false, false] 8 #[true, true, true, true, true, true, true, true, true, false, false, false, false, false, false, false, false, false, false, false, false, false, false, false, false, false, false] = true := by kernel_rfl
theorem rA4_9 : chk .any opsA4 26 [] #[true, true, true, true, true, true, true, true, true, false, false, false, false, false, false, false, false, false, false, false, false, false, false, false, false, false, false] 9 #[true, true, true, true, true, true, true, true, true, true, false, false, false, false, false, false, false, false, false, false, false, false, false, false, false, false, false] = true := by kernel_rfl
theorem rA4_10 : chk .any opsA4 26 [25, 12, 11] #[true, true, true, true, true, true, true, true, true, true, false, false, false, false, false, false, false, false, false, false, false, false, false, false, false, false, false] 10 #[true, true, true, true, true, true, true, true, true, true, true, false, false, false, false, false, false, false, false, false, false, false, false, false, false, false, false] = true := by kernel_rfl
theorem rA4_11 : chk .any opsA4 26 [25, 12] #[true, true, true, true, true, true, true, true, true, true, true, false, false, false, false, false, false, false, false, false, false, false, false, false, false, false, false] 11 #[true, true, true, true, true, true, true, true, true, true, true, true, false, false, false, false, false, false, false, false, false, false, false, false, false, false, false] = true := by kernel_rfl
theorem rA4_12 : chk .any opsA4 26 [25] #[true, true, true, true, true, true, true, true, true, true, true, true, false, false, false, false, false, false, false, false, false, false, false, false, false, false, false] 12 #[true, true, true, true, true, true, true, true, true, true, true, true, true, false, false, false, false, false, false, false, false, false, false, false, false, false, false] = true := by kernel_rfl
theorem rA4_13 : chk .any opsA4 26 [25, 24, 17, 16, 14] #[true, true, true, true, true, true, true, true, true, true, true, true, true, false, false, false, false, false, false, false, false, false, false, false, false, false, false] 13 #[true, true, true, true, true, true, true, true, true, true, true, true, true, true, false, false, false, false, false, false, false, false, false, false, false, false, false] = true := by kernel_rfl
theorem rA4_14 : chk .any opsA4 26 [25, 24, 17, 16] #[true, true, true, true, true, true, true, true, true, true, true, true, true, true, false, false, false, false, false, false, false, false, false, false, false, false, false] 14 #[true, true, true, true, true, true, true, true, true, true, true, true, true, true, true, false, false, false, false, false, false, false, false, false, false, false, false] = true := by kernel_rfl
theorem rA4_15 : chk .any opsA4 26 [25, 24, 17, 16] #[true, true, true, true, true, true, true, true, true, true, true, true, true, true, true, false, false, false, false, false, false, false, false, false, false, false, false] 15 #[true, true, true, true, true, true, true, true, true, true, true, true, true, true, true, true, false, false, false, false, false, false, false, false, false, false, false] = true := by kernel_rfl
theorem rA4_16 : chk .any opsA4 26 [25, 24, 17] #[true, true, true, true, true, true, true, true, true, true, true, true, true, true, true, true, false, false, false, false, false, false, false, false, false, false, false] 16 #[true, true, true, true, true, true, true, true, true, true, true, true, true, true, true, true, true, false, false, false, false, false, false, false, false, false, false] = true := by kernel_rfl
theorem rA4_17 : chk .any opsA4 26 [25, 24] #[true, true, true, true, true, true, true, true, true, true, true, true, true, true, true, true, true, false, false, false, false, false, false, false, false, false, false] 17 #[true, true, true, true, true, true, true, true, true, true, true, true, true, true, true, true, true, true, false, false, false, false, false, false, false, false, false] = true := by kernel_rfl
theorem rA4_18 : chk .any opsA4 26 [25, 24, 23, 22, 19] #[true, true, true, true, true, true, true, true, true, true, true, true, true, true, true, true, true, true, false, false, false, false, false, false, false, false, false] 18 #[true, true, true, true, true, true, true, true, true, true, true, true, true, true, true, true, true, true, true, false, false, false, false, false, false, false, false] = true := by kernel_rfl
theorem rA4_19 : chk .any opsA4 26 [25, 24, 23, 22] #[true, true, true, true, true, true, true, true, true, true, true, true, true, true, true, true, true, true, true, false, false, false, false, false, false, false, false] 19 #[true, true, true, true, true, true, true, true, true, true, true, true, true, true, true, true, true, true, true, true, false, false, false, false, false, false, false] = true := by kernel_rfl
theorem rA4_20 : chk .any opsA4 26 [25, 24, 23, 22, 21] #[true, true, true, true, true, true, true, true, true, true, true, true, true, true, true, true, true, true, true, true, false, false, false, false, false, false, false] 20 #[true, true, true, true, true, true, true, true, true, true, true, true, true, true, true, true, true, true, true, true, true, false, false, false, false, false, false] = true := by kernel_rfl
theorem rA4_21 : chk .any opsA4 26 [25, 24, 23, 22] #[true, true, true, true, true, true, true, true, true, true, true, true, true, true, true, true, true, true, true, true, true, false, false, false, false, false, false] 21 #[true, true, true, true, true, true, true, true, true, true, true, true, true, true, true, true, true, true, true, true, true, true, false, false, false, false, false] = true := by kernel_rfl
theorem rA4_22 : chk .any opsA4 26 [25, 24, 23] #[true, true, true, true, true, true, true, true, true, true, true, true, true, true, true, true, true, true, true, true, true, true, false, false, false, false, false] 22 #[true, true, true, true, true, true, true, true, true, true, true, true, true, true, true, true, true, true, true, true, true, true, true, false, false, false, false] = true := by kernel_rfl
theorem rA4_23 : chk .any opsA4 26 [25, 24] #[true, true, true, true, true, true, true, true, true, true, true, true, true, true, true, true, true, true, true, true, true, true, true, false, false, false, false] 23 #[true, true, true, true, true, true, true, true, true, true, true, true, true, true, true, true, true, true, true, true, true, true, true, true, false, false, false] = true := by kernel_rfl
theorem rA4_24 : chk .any opsA4 26 [25] #[true, true, true, true, true, true, true, true, true, true, true, true, true, true, true, true, true, true, true, true, true, true, true, true, false, false, false] 24 #[true, true, true, true, true, true, true, true, true, true, true, true, true, true, true, true, true, true, true, true, true, true, true, true, true, false, false] = true := by kernel_rfl
theorem rA4_25 : chk .any opsA4 26 [] #[true, true, true, true, true, true, true, true, true, true, true, true, true, true, true, true, true, true, true, true, true, true, true, true, true, false, false] 25 #[true, true, true, true, true, true, true, true, true, true, true, true, true, true, true, true, true, true, true, true, true, true, true, true, true, true, false] = true := by kernel_rfl
def opsB6 : Array Oper := #[{ dst := some 29, op := Go.Op.fieldAddr 26 (Go.Operand.tmp 1) 0, type := 0, pos := "ref.go:72", after := #[], guard := none }, { dst := some 30, op := Go.Op.load 22 (Go.Operand.tmp 29), type := 22, pos := "ref.go:72", after := #[{ on := 0, ground := Go.Ground.data }], guard := none }, { dst := some 31, op := Go.Op.move (Go.Operand.tmp 3), type := 3, pos := "ref.go:72", after := #[], guard := none }, { dst := some 32, op := Go.Op.indexAddr 22 (Go.Operand.tmp 30) (Go.Operand.tmp 31), type := 0, pos := "ref.go:72", after := #[{ on := 1, ground := Go.Ground.data }, { on := 2, ground := Go.Ground.data }], guard := none }, { dst := some 33, op := Go.Op.load 60 (Go.Operand.tmp 32), type := 60, pos := "ref.go:72", after := #[{ on := 3, ground := Go.Ground.data }], guard := none }, { dst := some 34, op := Go.Op.fieldAddr 26 (Go.Operand.tmp 1) 1, type := 0, pos := "ref.go:72", after := #[], guard := none }, { dst := some 35, op := Go.Op.load 23 (Go.Operand.tmp 34), type := 23, pos := "ref.go:72", after := #[{ on := 5, ground := Go.Ground.data }], guard := none }, { dst := some 36, op := Go.Op.call { callee := Go.Callee.builtin Go.Builtin.len, args := #[Go.Operand.tmp 35], argTypes := #[23] }, type := 3, pos := "ref.go:72", after := #[{ on := 6, ground := Go.Ground.data }], guard := none }, { dst := some 37, op := Go.Op.call { callee := Go.Callee.value (Go.Operand.func 42), args := #[Go.Operand.tmp 33, Go.Operand.tmp 36], argTypes := #[60, 3] }, type := 4, pos := "ref.go:72", after := #[{ on := 4, ground := Go.Ground.data }, { on := 7, ground := Go.Ground.data }], guard := none }, { dst := some 38, op := Go.Op.unOp Go.UnOp.not 4 (Go.Operand.tmp 37), type := 4, pos := "ref.go:72", after := #[{ on := 8, ground := Go.Ground.data }], guard := none }, { dst := some 39, op := Go.Op.move (Go.Operand.tmp 38), type := 4, pos := "ref.go:72", after := #[{ on := 9, ground := Go.Ground.data }, { on := 8, ground := Go.Ground.chain }], guard := none }, { dst := some 40, op := Go.Op.load 26 (Go.Operand.tmp 1), type := 26, pos := "ref.go:72", after := #[{ on := 10, ground := Go.Ground.guard }], guard := some (10, false) }, { dst := some 41, op := Go.Op.fieldAddr 26 (Go.Operand.tmp 1) 0, type := 0, pos := "ref.go:72", after := #[{ on := 10, ground := Go.Ground.guard }], guard := some (10, false) }, { dst := some 42, op := Go.Op.load 22 (Go.Operand.tmp 41), type := 22, pos := "ref.go:72", after := #[{ on := 12, ground := Go.Ground.data }, { on := 10, ground := Go.Ground.guard }], guard := some (10, false) }, { dst := some 43, op := Go.Op.move (Go.Operand.tmp 3), type := 3, pos := "ref.go:72", after := #[{ on := 10, ground := Go.Ground.guard }], guard := some (10, false) }, { dst := some 44, op := Go.Op.indexAddr 22 (Go.Operand.tmp 42) (Go.Operand.tmp 43), type := 0, pos := "ref.go:72", after := #[{ on := 13, ground := Go.Ground.data }, { on := 14, ground := Go.Ground.data }, { on := 10, ground := Go.Ground.guard }], guard := some (10, false) }, { dst := some 45, op := Go.Op.fieldAddr 60 (Go.Operand.tmp 44) 0, type := 0, pos := "ref.go:72", after := #[{ on := 15, ground := Go.Ground.data }, { on := 10, ground := Go.Ground.guard }], guard := some (10, false) }, { dst := some 46, op := Go.Op.load 3 (Go.Operand.tmp 45), type := 3, pos := "ref.go:72", after := #[{ on := 16, ground := Go.Ground.data }, { on := 10, ground := Go.Ground.guard }], guard := some (10, false) }, { dst := some 47, op := Go.Op.call { callee := Go.Callee.value (Go.Operand.func 43), args := #[Go.Operand.tmp 40, Go.Operand.tmp 46], argTypes := #[26, 3] }, type := 3, pos := "ref.go:72", after := #[{ on := 11, ground := Go.Ground.data }, { on := 17, ground := Go.Ground.data }, { on := 10, ground := Go.Ground.chain }, { on := 10, ground := Go.Ground.guard }], guard := some (10, false) }, { dst := some 48, op := Go.Op.move (Go.Operand.tmp 3), type := 3, pos := "ref.go:72", after := #[{ on := 10, ground := Go.Ground.guard }], guard := some (10, false) }, { dst := some 49, op := Go.Op.binOp Go.BinOp.neq 3 (Go.Operand.tmp 47) (Go.Operand.tmp 48) 3, type := 4, pos := "ref.go:72", after := #[{ on := 18, ground := Go.Ground.data }, { on := 19, ground := Go.Ground.data }, { on := 10, ground := Go.Ground.guard }], guard := some (10, false) }, { dst := some 50, op := Go.Op.pick (Go.Operand.tmp 39) (Go.Operand.const (Go.Value.bool true)) (Go.Operand.tmp 49), type := 4, pos := "ref.go:72", after := #[{ on := 10, ground := Go.Ground.data }, { on := 20, ground := Go.Ground.data }], guard := none }]
theorem rB6o_0 : opsB6[0]? = some { dst := some 29, op := Go.Op.fieldAddr 26 (Go.Operand.tmp 1) 0, type := 0, pos := "ref.go:72", after := #[], guard := none } := rfl
theorem rB6o_1 : opsB6[1]? = some { dst := some 30, op := Go.Op.load 22 (Go.Operand.tmp 29), type := 22, pos := "ref.go:72", after := #[{ on := 0, ground := Go.Ground.data }], guard := none } := rfl
theorem rB6o_2 : opsB6[2]? = some { dst := some 31, op := Go.Op.move (Go.Operand.tmp 3), type := 3, pos := "ref.go:72", after := #[], guard := none } := rfl
theorem rB6o_3 : opsB6[3]? = some { dst := some 32, op := Go.Op.indexAddr 22 (Go.Operand.tmp 30) (Go.Operand.tmp 31), type := 0, pos := "ref.go:72", after := #[{ on := 1, ground := Go.Ground.data }, { on := 2, ground := Go.Ground.data }], guard := none } := rfl
theorem rB6o_4 : opsB6[4]? = some { dst := some 33, op := Go.Op.load 60 (Go.Operand.tmp 32), type := 60, pos := "ref.go:72", after := #[{ on := 3, ground := Go.Ground.data }], guard := none } := rfl
theorem rB6o_5 : opsB6[5]? = some { dst := some 34, op := Go.Op.fieldAddr 26 (Go.Operand.tmp 1) 1, type := 0, pos := "ref.go:72", after := #[], guard := none } := rfl
theorem rB6o_6 : opsB6[6]? = some { dst := some 35, op := Go.Op.load 23 (Go.Operand.tmp 34), type := 23, pos := "ref.go:72", after := #[{ on := 5, ground := Go.Ground.data }], guard := none } := rfl
theorem rB6o_7 : opsB6[7]? = some { dst := some 36, op := Go.Op.call { callee := Go.Callee.builtin Go.Builtin.len, args := #[Go.Operand.tmp 35], argTypes := #[23] }, type := 3, pos := "ref.go:72", after := #[{ on := 6, ground := Go.Ground.data }], guard := none } := rfl
theorem rB6o_8 : opsB6[8]? = some { dst := some 37, op := Go.Op.call { callee := Go.Callee.value (Go.Operand.func 42), args := #[Go.Operand.tmp 33, Go.Operand.tmp 36], argTypes := #[60, 3] }, type := 4, pos := "ref.go:72", after := #[{ on := 4, ground := Go.Ground.data }, { on := 7, ground := Go.Ground.data }], guard := none } := rfl
theorem rB6o_9 : opsB6[9]? = some { dst := some 38, op := Go.Op.unOp Go.UnOp.not 4 (Go.Operand.tmp 37), type := 4, pos := "ref.go:72", after := #[{ on := 8, ground := Go.Ground.data }], guard := none } := rfl
theorem rB6o_10 : opsB6[10]? = some { dst := some 39, op := Go.Op.move (Go.Operand.tmp 38), type := 4, pos := "ref.go:72", after := #[{ on := 9, ground := Go.Ground.data }, { on := 8, ground := Go.Ground.chain }], guard := none } := rfl
theorem rB6o_11 : opsB6[11]? = some { dst := some 40, op := Go.Op.load 26 (Go.Operand.tmp 1), type := 26, pos := "ref.go:72", after := #[{ on := 10, ground := Go.Ground.guard }], guard := some (10, false) } := rfl
theorem rB6o_12 : opsB6[12]? = some { dst := some 41, op := Go.Op.fieldAddr 26 (Go.Operand.tmp 1) 0, type := 0, pos := "ref.go:72", after := #[{ on := 10, ground := Go.Ground.guard }], guard := some (10, false) } := rfl
theorem rB6o_13 : opsB6[13]? = some { dst := some 42, op := Go.Op.load 22 (Go.Operand.tmp 41), type := 22, pos := "ref.go:72", after := #[{ on := 12, ground := Go.Ground.data }, { on := 10, ground := Go.Ground.guard }], guard := some (10, false) } := rfl
theorem rB6o_14 : opsB6[14]? = some { dst := some 43, op := Go.Op.move (Go.Operand.tmp 3), type := 3, pos := "ref.go:72", after := #[{ on := 10, ground := Go.Ground.guard }], guard := some (10, false) } := rfl
theorem rB6o_15 : opsB6[15]? = some { dst := some 44, op := Go.Op.indexAddr 22 (Go.Operand.tmp 42) (Go.Operand.tmp 43), type := 0, pos := "ref.go:72", after := #[{ on := 13, ground := Go.Ground.data }, { on := 14, ground := Go.Ground.data }, { on := 10, ground := Go.Ground.guard }], guard := some (10, false) } := rfl
theorem rB6o_16 : opsB6[16]? = some { dst := some 45, op := Go.Op.fieldAddr 60 (Go.Operand.tmp 44) 0, type := 0, pos := "ref.go:72", after := #[{ on := 15, ground := Go.Ground.data }, { on := 10, ground := Go.Ground.guard }], guard := some (10, false) } := rfl
theorem rB6o_17 : opsB6[17]? = some { dst := some 46, op := Go.Op.load 3 (Go.Operand.tmp 45), type := 3, pos := "ref.go:72", after := #[{ on := 16, ground := Go.Ground.data }, { on := 10, ground := Go.Ground.guard }], guard := some (10, false) } := rfl
theorem rB6o_18 : opsB6[18]? = some { dst := some 47, op := Go.Op.call { callee := Go.Callee.value (Go.Operand.func 43), args := #[Go.Operand.tmp 40, Go.Operand.tmp 46], argTypes := #[26, 3] }, type := 3, pos := "ref.go:72", after := #[{ on := 11, ground := Go.Ground.data }, { on := 17, ground := Go.Ground.data }, { on := 10, ground := Go.Ground.chain }, { on := 10, ground := Go.Ground.guard }], guard := some (10, false) } := rfl
theorem rB6o_19 : opsB6[19]? = some { dst := some 48, op := Go.Op.move (Go.Operand.tmp 3), type := 3, pos := "ref.go:72", after := #[{ on := 10, ground := Go.Ground.guard }], guard := some (10, false) } := rfl
theorem rB6o_20 : opsB6[20]? = some { dst := some 49, op := Go.Op.binOp Go.BinOp.neq 3 (Go.Operand.tmp 47) (Go.Operand.tmp 48) 3, type := 4, pos := "ref.go:72", after := #[{ on := 18, ground := Go.Ground.data }, { on := 19, ground := Go.Ground.data }, { on := 10, ground := Go.Ground.guard }], guard := some (10, false) } := rfl
theorem rB6o_21 : opsB6[21]? = some { dst := some 50, op := Go.Op.pick (Go.Operand.tmp 39) (Go.Operand.const (Go.Value.bool true)) (Go.Operand.tmp 49), type := 4, pos := "ref.go:72", after := #[{ on := 10, ground := Go.Ground.data }, { on := 20, ground := Go.Ground.data }], guard := none } := rfl
theorem rB6_0 : chk .any opsB6 21 [10, 8, 4, 3, 1] #[false, false, false, false, false, false, false, false, false, false, false, false, false, false, false, false, false, false, false, false, false, false] 0 #[true, false, false, false, false, false, false, false, false, false, false, false, false, false, false, false, false, false, false, false, false, false] = true := by kernel_rfl
theorem rB6_1 : chk .any opsB6 21 [10, 8, 4, 3] #[true, false, false, false, false, false, false, false, false, false, false, false, false, false, false, false, false, false, false, false, false, false] 1 #[true, true, false, false, false, false, false, false, false, false, false, false, false, false, false, false, false, false, false, false, false, false] = true := by kernel_rfl
theorem rB6_2 : chk .any opsB6 21 [10, 8, 4, 3] #[true, true, false, false, false, false, false, false, false, false, false, false, false, false, false, false, false, false, false, false, false, false] 2 #[true, true, true, false, false, false, false, false, false, false, false, false, false, false, false, false, false, false, false, false, false, false] = true := by kernel_rfl
theorem rB6_3 : chk .any opsB6 21 [10, 8, 4] #[true, true, true, false, false, false, false, false, false, false, false, false, false, false, false, false, false, false, false, false, false, false] 3 #[true, true, true, true, false, false, false, false, false, false, false, false, false, false, false, false, false, false, false, false, false, false] = true := by kernel_rfl
theorem rB6_4 : chk .any opsB6 21 [10, 8] #[true, true, true, true, false, false, false, false, false, false, false, false, false, false, false, false, false, false, false, false, false, false] 4 #[true, true, true, true, true, false, false, false, false, false, false, false, false, false, false, false, false, false, false, false, false, false] = true := by kernel_rfl
theorem rB6_5 : chk .any opsB6 21 [10, 8, 7, 6] #[true, true, true, true, true, false, false, false, false, false, false, false, false, false, false, false, false, false, false, false, false, false] 5 #[true, true, true, true, true, true, false, false, false, false, false, false, false, false, false, false, false, false, false, false, false, false] = true := by kernel_rfl
theorem rB6_6 : chk .any opsB6 21 [10, 8, 7] #[true, true, true, true, true, true, false, false, false, false, false, false, false, false, false, false, false, false, false, false, false, false] 6 #[true, true, true, true, true, true, true, false, false, false, false, false, false, false, false, false, false, false, false, false, false, false] = true := by kernel_rfl
theorem rB6_7 : chk .any opsB6 21 [10, 8] #[true, true, true, true, true, true, true, false, false, false, false, false, false, false, false, false, false, false, false, false, false, false] 7 #[true, true, true, true, true, true, true, true, false, false, false, false, false, false, false, false, false, false, false, false, false, false] = true := by kernel_rfl
theorem rB6_8 : chk1 .any opsB6 #[true, true, true, true, true, true, true, true, false, false, false, false, false, false, false, false, false, false, false, false, false, false] 8 #[true, true, true, true, true, true, true, true, true, false, false, false, false, false, false, false, false, false, false, false, false, false] = true := by kernel_rfl
theorem rB6_9 : chk .any opsB6 21 [10] #[true, true, true, true, true, true, true, true, true, false, false, false, false, false, false, false, false, false, false, false, false, false] 9 #[true, true, true, true, true, true, true, true, true, true, false, false, false, false, false, false, false, false, false, false, false, false] = true := by kernel_rfl
theorem rB6_10 : chk .any opsB6 21 [] #[true, true, true, true, true, true, true, true, true, true, false, false, false, false, false, false, false, false, false, false, false, false] 10 #[true, true, true, true, true, true, true, true, true, true, true, false, false, false, false, false, false, false, false, false, false, false] = true := by kernel_rfl
theorem rB6_11 : chk .any opsB6 21 [20, 18] #[true, true, true, true, true, true, true, true, true, true, true, false, false, false, false, false, false, false, false, false, false, false] 11 #[true, true, true, true, true, true, true, true, true, true, true, true, false, false, false, false, false, false, false, false, false, false] = true := by kernel_rfl
theorem rB6_12 : chk .any opsB6 21 [20, 18, 17, 16, 15, 13] #[true, true, true, true, true, true, true, true, true, true, true, true, false, false, false, false, false, false, false, false, false, false] 12 #[true, true, true, true, true, true, true, true, true, true, true, true, true, false, false, false, false, false, false, false, false, false] = true := by kernel_rfl
theorem rB6_13 : chk .any opsB6 21 [20, 18, 17, 16, 15] #[true, true, true, true, true, true, true, true, true, true, true, true, true, false, false, false, false, false, false, false, false, false] 13 #[true, true, true, true, true, true, true, true, true, true, true, true, true, true, false, false, false, false, false, false, false, false] = true := by kernel_rfl
theorem rB6_14 : chk .any opsB6 21 [20, 18, 17, 16, 15] #[true, true, true, true, true, true, true, true, true, true, true, true, true, true, false, false, false, false, false, false, false, false] 14 #[true, true, true, true, true, true, true, true, true, true, true, true, true, true, true, false, false, false, false, false, false, false] = true := by kernel_rfl
theorem rB6_15 : chk .any opsB6 21 [20, 18, 17, 16] #[true, true, true, true, true, true, true, true, true, true, true, true, true, true, true, false, false, false, false, false, false, false] 15 #[true, true, true, true, true, true, true, true, true, true, true, true, true, true, true, true, false, false, false, false, false, false] = true := by kernel_rfl
theorem rB6_16 : chk .any opsB6 21 [20, 18, 17] #[true, true, true, true, true, true, true, true, true, true, true, true, true, true, true, true, false, false, false, false, false, false] 16 #[true, true, true, true, true, true, true, true, true, true, true, true, true, true, true, true, true, false, false, false, false, false] = true := by kernel_rfl
theorem rB6_17 : chk .any opsB6 21 [20, 18] #[true, true, true, true, true, true, true, true, true, true, true, true, true, true, true, true, true, false, false, false, false, false] 17 #[true, true, true, true, true, true, true, true, true, true, true, true, true, true, true, true, true, true, false, false, false, false] = true := by kernel_rfl
theorem rB6_19 : chk .any opsB6 21 [20] #[true, true, true, true, true, true, true, true, true, true, true, true, true, true, true, true, true, true, false, false, false, false] 19 #[true, true, true, true, true, true, true, true, true, true, true, true, true, true, true, true, true, true, false, true, false, false] = true := by kernel_rfl
theorem rB6_18 : chk1 .any opsB6 #[true, true, true, true, true, true, true, true, true, true, true, true, true, true, true, true, true, true, false, true, false, false] 18 #[true, true, true, true, true, true, true, true, true, true, true, true, true, true, true, true, true, true, true, true, false, false] = true := by kernel_rfl
theorem rB6_20 : chk .any opsB6 21 [] #[true, true, true, true, true, true, true, true, true, true, true, true, true, true, true, true, true, true, true, true, false, false] 20 #[true, true, true, true, true, true, true, true, true, true, true, true, true, true, true, true, true, true, true, true, true, false] = true := by kernel_rfl
def opsB16 : Array Oper := #[{ dst := some 72, op := Go.Op.load 26 (Go.Operand.tmp 1), type := 26, pos := "ref.go:82", after := #[], guard := none }, { dst := some 73, op := Go.Op.fieldAddr 26 (Go.Operand.tmp 1) 2, type := 0, pos := "ref.go:82", after := #[], guard := none }, { dst := some 74, op := Go.Op.load 24 (Go.Operand.tmp 73), type := 24, pos := "ref.go:82", after := #[{ on := 1, ground := Go.Ground.data }], guard := none }, { dst := some 75, op := Go.Op.move (Go.Operand.tmp 5), type := 3, pos := "ref.go:82", after := #[], guard := none }, { dst := some 76, op := Go.Op.indexAddr 24 (Go.Operand.tmp 74) (Go.Operand.tmp 75), type := 0, pos := "ref.go:82", after := #[{ on := 2, ground := Go.Ground.data }, { on := 3, ground := Go.Ground.data }], guard := none }, { dst := some 77, op := Go.Op.load 3 (Go.Operand.tmp 76), type := 3, pos := "ref.go:82", after := #[{ on := 4, ground := Go.Ground.data }], guard := none }, { dst := some 78, op := Go.Op.call { callee := Go.Callee.value (Go.Operand.func 43), args := #[Go.Operand.tmp 72, Go.Operand.tmp 77], argTypes := #[26, 3] }, type := 3, pos := "ref.go:82", after := #[{ on := 0, ground := Go.Ground.data }, { on := 5, ground := Go.Ground.data }], guard := none }, { dst := some 79, op := Go.Op.binOp Go.BinOp.lss 3 (Go.Operand.tmp 78) (Go.Operand.const (Go.Value.int Go.IntKind.i64 0)) 3, type := 4, pos := "ref.go:82", after := #[{ on := 6, ground := Go.Ground.data }], guard := none }, { dst := some 80, op := Go.Op.move (Go.Operand.tmp 79), type := 4, pos := "ref.go:82", after := #[{ on := 7, ground := Go.Ground.data }, { on := 6, ground := Go.Ground.chain }], guard := none }, { dst := some 81, op := Go.Op.move (Go.Operand.tmp 5), type := 3, pos := "ref.go:82", after := #[{ on := 8, ground := Go.Ground.guard }], guard := some (8, false) }, { dst := some 82, op := Go.Op.binOp Go.BinOp.gtr 3 (Go.Operand.tmp 81) (Go.Operand.const (Go.Value.int Go.IntKind.i64 0)) 3, type := 4, pos := "ref.go:82", after := #[{ on := 9, ground := Go.Ground.data }, { on := 8, ground := Go.Ground.guard }], guard := some (8, false) }, { dst := some 83, op := Go.Op.move (Go.Operand.tmp 82), type := 4, pos := "ref.go:82", after := #[{ on := 10, ground := Go.Ground.data }, { on := 8, ground := Go.Ground.chain }, { on := 8, ground := Go.Ground.guard }], guard := some (8, false) }, { dst := some 84, op := Go.Op.fieldAddr 26 (Go.Operand.tmp 1) 2, type := 0, pos := "ref.go:82", after := #[{ on := 11, ground := Go.Ground.guard }], guard := some (11, true) }, { dst := some 85, op := Go.Op.load 24 (Go.Operand.tmp 84), type := 24, pos := "ref.go:82", after := #[{ on := 12, ground := Go.Ground.data }, { on := 11, ground := Go.Ground.guard }], guard := some (11, true) }, { dst := some 86, op := Go.Op.move (Go.Operand.tmp 5), type := 3, pos := "ref.go:82", after := #[{ on := 11, ground := Go.Ground.guard }], guard := some (11, true) }, { dst := some 87, op := Go.Op.indexAddr 24 (Go.Operand.tmp 85) (Go.Operand.tmp 86), type := 0, pos := "ref.go:82", after := #[{ on := 13, ground := Go.Ground.data }, { on := 14, ground := Go.Ground.data }, { on := 11, ground := Go.Ground.guard }], guard := some (11, true) }, { dst := some 88, op := Go.Op.load 3 (Go.Operand.tmp 87), type := 3, pos := "ref.go:82", after := #[{ on := 15, ground := Go.Ground.data }, { on := 11, ground := Go.Ground.guard }], guard := some (11, true) }, { dst := some 89, op := Go.Op.fieldAddr 26 (Go.Operand.tmp 1) 2, type := 0, pos := "ref.go:82", after := #[{ on := 11, ground := Go.Ground.guard }], guard := some (11, true) }, { dst := some 90, op := Go.Op.load 24 (Go.Operand.tmp 89), type := 24, pos := "ref.go:82", after := #[{ on := 17, ground := Go.Ground.data }, { on := 11, ground := Go.Ground.guard }], guard := some (11, true) }, { dst := some 91, op := Go.Op.move (Go.Operand.tmp 5), type := 3, pos := "ref.go:82", after := #[{ on := 11, ground := Go.Ground.guard }], guard := some (11, true) }, { dst := some 92, op := Go.Op.binOp Go.BinOp.sub 3 (Go.Operand.tmp 91) (Go.Operand.const (Go.Value.int Go.IntKind.i64 1)) 3, type := 3, pos := "ref.go:82", after := #[{ on := 19, ground := Go.Ground.data }, { on := 11, ground := Go.Ground.guard }], guard := some (11, true) }, { dst := some 93, op := Go.Op.indexAddr 24 (Go.Operand.tmp 90) (Go.Operand.tmp 92), type := 0, pos := "ref.go:82", after := #[{ on := 18, ground := Go.Ground.data }, { on := 20, ground := Go.Ground.data }, { on := 11, ground := Go.Ground.guard }], guard := some (11, true) }, { dst := some 94, op := Go.Op.load 3 (Go.Operand.tmp 93), type := 3, pos := "ref.go:82", after := #[{ on := 21, ground := Go.Ground.data }, { on := 11, ground := Go.Ground.guard }], guard := some (11, true) }, { dst := some 95, op := Go.Op.binOp Go.BinOp.leq 3 (Go.Operand.tmp 88) (Go.Operand.tmp 94) 3, type := 4, pos := "ref.go:82", after := #[{ on := 16, ground := Go.Ground.data }, { on := 22, ground := Go.Ground.data }, { on := 11, ground := Go.Ground.guard }], guard := some (11, true) }, { dst := some 96, op := Go.Op.pick (Go.Operand.tmp 83) (Go.Operand.tmp 95) (Go.Operand.const (Go.Value.bool false)), type := 4, pos := "ref.go:82", after := #[{ on := 11, ground := Go.Ground.data }, { on := 23, ground := Go.Ground.data }, { on := 8, ground := Go.Ground.guard }], guard := some (8, false) }, { dst := some 97, op := Go.Op.pick (Go.Operand.tmp 80) (Go.Operand.const (Go.Value.bool true)) (Go.Operand.tmp 96), type := 4, pos := "ref.go:82", after := #[{ on := 8, ground := Go.Ground.data }, { on := 24, ground := Go.Ground.data }], guard := none }]
theorem rB16o_0 : opsB16[0]? = some { dst := some 72, op := Go.Op.load 26 (Go.Operand.tmp 1), type := 26, pos := "ref.go:82", after := #[], guard := none } := rfl
theorem rB16o_1 : opsB16[1]? = some { dst := some 73, op := Go.Op.fieldAddr 26 (Go.Operand.tmp 1) 2, type := 0, pos := "ref.go:82", after := #[], guard := none } := rfl
theorem rB16o_2 : opsB16[2]? = some { dst := some 74, op := Go.Op.load 24 (Go.Operand.tmp 73), type := 24, pos := "ref.go:82", after := #[{ on := 1, ground := Go.Ground.data }], guard := none } := rfl
theorem rB16o_3 : opsB16[3]? = some { dst := some 75, op := Go.Op.move (Go.Operand.tmp 5), type := 3, pos := "ref.go:82", after := #[], guard := none } := rfl
theorem rB16o_4 : opsB16[4]? = some { dst := some 76, op := Go.Op.indexAddr 24 (Go.Operand.tmp 74) (Go.Operand.tmp 75), type := 0, pos := "ref.go:82", after := #[{ on := 2, ground := Go.Ground.data }, { on := 3, ground := Go.Ground.data }], guard := none } := rfl
theorem rB16o_5 : opsB16[5]? = some { dst := some 77, op := Go.Op.load 3 (Go.Operand.tmp 76), type := 3, pos := "ref.go:82", after := #[{ on := 4, ground := Go.Ground.data }], guard := none } := rfl
theorem rB16o_6 : opsB16[6]? = some { dst := some 78, op := Go.Op.call { callee := Go.Callee.value (Go.Operand.func 43), args := #[Go.Operand.tmp 72, Go.Operand.tmp 77], argTypes := #[26, 3] }, type := 3, pos := "ref.go:82", after := #[{ on := 0, ground := Go.Ground.data }, { on := 5, ground := Go.Ground.data }], guard := none } := rfl
theorem rB16o_7 : opsB16[7]? = some { dst := some 79, op := Go.Op.binOp Go.BinOp.lss 3 (Go.Operand.tmp 78) (Go.Operand.const (Go.Value.int Go.IntKind.i64 0)) 3, type := 4, pos := "ref.go:82", after := #[{ on := 6, ground := Go.Ground.data }], guard := none } := rfl
theorem rB16o_8 : opsB16[8]? = some { dst := some 80, op := Go.Op.move (Go.Operand.tmp 79), type := 4, pos := "ref.go:82", after := #[{ on := 7, ground := Go.Ground.data }, { on := 6, ground := Go.Ground.chain }], guard := none } := rfl
theorem rB16o_9 : opsB16[9]? = some { dst := some 81, op := Go.Op.move (Go.Operand.tmp 5), type := 3, pos := "ref.go:82", after := #[{ on := 8, ground := Go.Ground.guard }], guard := some (8, false) } := rfl
theorem rB16o_10 : opsB16[10]? = some { dst := some 82, op := Go.Op.binOp Go.BinOp.gtr 3 (Go.Operand.tmp 81) (Go.Operand.const (Go.Value.int Go.IntKind.i64 0)) 3, type := 4, pos := "ref.go:82", after := #[{ on := 9, ground := Go.Ground.data }, { on := 8, ground := Go.Ground.guard }], guard := some (8, false) } := rfl
theorem rB16o_11 : opsB16[11]? = some { dst := some 83, op := Go.Op.move (Go.Operand.tmp 82), type := 4, pos := "ref.go:82", after := #[{ on := 10, ground := Go.Ground.data }, { on := 8, ground := Go.Ground.chain }, { on := 8, ground := Go.Ground.guard }], guard := some (8, false) } := rfl
theorem rB16o_12 : opsB16[12]? = some { dst := some 84, op := Go.Op.fieldAddr 26 (Go.Operand.tmp 1) 2, type := 0, pos := "ref.go:82", after := #[{ on := 11, ground := Go.Ground.guard }], guard := some (11, true) } := rfl
theorem rB16o_13 : opsB16[13]? = some { dst := some 85, op := Go.Op.load 24 (Go.Operand.tmp 84), type := 24, pos := "ref.go:82", after := #[{ on := 12, ground := Go.Ground.data }, { on := 11, ground := Go.Ground.guard }], guard := some (11, true) } := rfl
theorem rB16o_14 : opsB16[14]? = some { dst := some 86, op := Go.Op.move (Go.Operand.tmp 5), type := 3, pos := "ref.go:82", after := #[{ on := 11, ground := Go.Ground.guard }], guard := some (11, true) } := rfl
theorem rB16o_15 : opsB16[15]? = some { dst := some 87, op := Go.Op.indexAddr 24 (Go.Operand.tmp 85) (Go.Operand.tmp 86), type := 0, pos := "ref.go:82", after := #[{ on := 13, ground := Go.Ground.data }, { on := 14, ground := Go.Ground.data }, { on := 11, ground := Go.Ground.guard }], guard := some (11, true) } := rfl
theorem rB16o_16 : opsB16[16]? = some { dst := some 88, op := Go.Op.load 3 (Go.Operand.tmp 87), type := 3, pos := "ref.go:82", after := #[{ on := 15, ground := Go.Ground.data }, { on := 11, ground := Go.Ground.guard }], guard := some (11, true) } := rfl
theorem rB16o_17 : opsB16[17]? = some { dst := some 89, op := Go.Op.fieldAddr 26 (Go.Operand.tmp 1) 2, type := 0, pos := "ref.go:82", after := #[{ on := 11, ground := Go.Ground.guard }], guard := some (11, true) } := rfl
theorem rB16o_18 : opsB16[18]? = some { dst := some 90, op := Go.Op.load 24 (Go.Operand.tmp 89), type := 24, pos := "ref.go:82", after := #[{ on := 17, ground := Go.Ground.data }, { on := 11, ground := Go.Ground.guard }], guard := some (11, true) } := rfl
theorem rB16o_19 : opsB16[19]? = some { dst := some 91, op := Go.Op.move (Go.Operand.tmp 5), type := 3, pos := "ref.go:82", after := #[{ on := 11, ground := Go.Ground.guard }], guard := some (11, true) } := rfl
theorem rB16o_20 : opsB16[20]? = some { dst := some 92, op := Go.Op.binOp Go.BinOp.sub 3 (Go.Operand.tmp 91) (Go.Operand.const (Go.Value.int Go.IntKind.i64 1)) 3, type := 3, pos := "ref.go:82", after := #[{ on := 19, ground := Go.Ground.data }, { on := 11, ground := Go.Ground.guard }], guard := some (11, true) } := rfl
theorem rB16o_21 : opsB16[21]? = some { dst := some 93, op := Go.Op.indexAddr 24 (Go.Operand.tmp 90) (Go.Operand.tmp 92), type := 0, pos := "ref.go:82", after := #[{ on := 18, ground := Go.Ground.data }, { on := 20, ground := Go.Ground.data }, { on := 11, ground := Go.Ground.guard }], guard := some (11, true) } := rfl
theorem rB16o_22 : opsB16[22]? = some { dst := some 94, op := Go.Op.load 3 (Go.Operand.tmp 93), type := 3, pos := "ref.go:82", after := #[{ on := 21, ground := Go.Ground.data }, { on := 11, ground := Go.Ground.guard }], guard := some (11, true) } := rfl
theorem rB16o_23 : opsB16[23]? = some { dst := some 95, op := Go.Op.binOp Go.BinOp.leq 3 (Go.Operand.tmp 88) (Go.Operand.tmp 94) 3, type := 4, pos := "ref.go:82", after := #[{ on := 16, ground := Go.Ground.data }, { on := 22, ground := Go.Ground.data }, { on := 11, ground := Go.Ground.guard }], guard := some (11, true) } := rfl
theorem rB16o_24 : opsB16[24]? = some { dst := some 96, op := Go.Op.pick (Go.Operand.tmp 83) (Go.Operand.tmp 95) (Go.Operand.const (Go.Value.bool false)), type := 4, pos := "ref.go:82", after := #[{ on := 11, ground := Go.Ground.data }, { on := 23, ground := Go.Ground.data }, { on := 8, ground := Go.Ground.guard }], guard := some (8, false) } := rfl
theorem rB16o_25 : opsB16[25]? = some { dst := some 97, op := Go.Op.pick (Go.Operand.tmp 80) (Go.Operand.const (Go.Value.bool true)) (Go.Operand.tmp 96), type := 4, pos := "ref.go:82", after := #[{ on := 8, ground := Go.Ground.data }, { on := 24, ground := Go.Ground.data }], guard := none } := rfl
theorem rB16_0 : chk .any opsB16 25 [8, 6] #[false, false, false, false, false, false, false, false, false, false, false, false, false, false, false, false, false, false, false, false, false, false, false, false, false, false] 0 #[true, false, false, false, false, false, false, false, false, false, false, false, false, false, false, false, false, false, false, false, false, false, false, false, false, false] = true := by kernel_rfl
theorem rB16_1 : chk .any opsB16 25 [8, 6, 5, 4, 2] #[true, false, false, false, false, false, false, false, false, false, false, false, false, false, false, false, false, false, false, false, false, false, false, false, false, false] 1 #[true, true, false, false, false, false, false, false, false, false, false, false, false, false, false, false, false, false, false, false, false, false, false, false, false, false] = true := by kernel_rfl
theorem rB16_2 : chk .any opsB16 25 [8, 6, 5, 4] #[true, true, false, false, false, false, false, false, false, false, false, false, false, false, false, false, false, false, false, false, false, false, false, false, false, false] 2 #[true, true, true, false, false, false, false, false, false, false, false, false, false, false, false, false, false, false, false, false, false, false, false, false, false, false] = true := by kernel_rfl
theorem rB16_3 : chk .any opsB16 25 [8, 6, 5, 4] #[true, true, true, false, false, false, false, false, false, false, false, false, false, false, false, false, false, false, false, false, false, false, false, false, false, false] 3 #[true, true, true, true, false, false, false, false, false, false, false, false, false, false, false, false, false, false, false, false, false, false, false, false, false, false] = true := by kernel_rfl
theorem rB16_4 : chk .any opsB16 25 [8, 6, 5] #[true, true, true, true, false, false, false, false, false, false, false, false, false, false, false, false, false, false, false, false, false, false, false, false, false, false] 4 #[true, true, true, true, true, false, false, false, false, false, false, false, false, false, false, false, false, false, false, false, false, false, false, false, false, false] = true := by kernel_rfl
theorem rB16_5 : chk .any opsB16 25 [8, 6] #[true, true, true, true, true, false, false, false, false, false, false, false, false, false, false, false, false, false, false, false, false, false, false, false, false, false] 5 #[true, true, true, true, true, true, false, false, false, false, false, false, false, false, false, false, false, false, false, false, false, false, false, false, false, false] = true := by kernel_rfl
theorem rB16_6 : chk1 .any opsB16 #[true, true, true, true, true, true, false, false, false, false, false, false, false, false, false, false, false, false, false, false, false, false, false, false, false, false] 6 #[true, true, true, true, true, true, true, false, false, false, false, false, false, false, false, false, false, false, false, false, false, false, false, false, false, false] = true := by kernel_rfl
theorem rB16_7 : chk .any opsB16 25 [8] #[true, true, true, true, true, true, true, false, false, false, false, false, false, false, false, false, false, false, false, false, false, false, false, false, false, false] 7 #[true, true, true, true, true, true, true, true, false, false, false, false, false, false, false, false, false, false, false, false, false, false, false, false, false, false] = true := by kernel_rfl
theorem rB16_8 : chk .any opsB16 25 [] #[true, true, true, true, true, true, true, true, false, false, false, false, false, false, false, false, false, false, false, false, false, false, false, false, false, false] 8 #[true, true, true, true, true, true, true, true, true, false, false, false, false, false, false, false, false, false, false, false, false, false, false, false, false, false] = true := by kernel_rfl
theorem rB16_9 : chk .any opsB16 25 [24, 11, 10] #[true, true, true, true, true, true, true, true, true, false, false, false, false, false, false, false, false, false, false, false, false, false, false, false, false, false] 9 #[true, true, true, true, true, true, true, true, true, true, false, false, false, false, false, false, false, false, false, false, false, false, false, false, false, false] = true := by kernel_rfl
theorem rB16_10 : chk .any opsB16 25 [24, 11] #[true, true, true, true, true, true, true, true, true, true, false, false, false, false, false, false, false, false, false, false, false, false, false, false, false, false] 10 #[true, true, true, true, true, true, true, true, true, true, true, false, false, false, false, false, false, false, false, false, false, false, false, false, false, false] = true := by kernel_rfl
theorem rB16_11 : chk .any opsB16 25 [24] #[true, true, true, true, true, true, true, true, true, true, true, false, false, false, false, false, false, false, false, false, false, false, false, false, false, false] 11 #[true, true, true, true, true, true, true, true, true, true, true, true, false, false, false, false, false, false, false, false, false, false, false, false, false, false] = true := by kernel_rfl
theorem rB16_12 : chk .any opsB16 25 [24, 23, 16, 15, 13] #[true, true, true, true, true, true, true, true, true, true, true, true, false, false, false, false, false, false, false, false, false, false, false, false, false, false] 12 #[true, true, true, true, true, true, true, true, true, true, true, true, true, false, false, false, false, false, false, false, false, false, false, false, false, false] = true := by kernel_rfl
theorem rB16_13 : chk .any opsB16 25 [24, 23, 16, 15] #[true, true, true, true, true, true, true, true, true, true, true, true, true, false, false, false, false, false, false, false, false, false, false, false, false, false] 13 #[true, true, true, true, true, true, true, true, true, true, true, true, true, true, false, false, false, false, false, false, false, false, false, false, false, false] = true := by kernel_rfl
theorem rB16_14 : chk .any opsB16 25 [24, 23, 16, 15] #[true, true, true, true, true, true, true, true, true, true, true, true, true, true, false, false, false, false, false, false, false, false, false, false, false, false] 14 #[true, true, true, true, true, true, true, true, true, true, true, true, true, true, true, false, false, false, false, false, false, false, false, false, false, false] = true := by kernel_rfl
theorem rB16_15 : chk .any opsB16 25 [24, 23, 16] #[true, true, true, true, true, true, true, true, true, true, true, true, true, true, true, false, false, false, false, false, false, false, false, false, false, false] 15 #[true, true, true, true, true, true, true, true, true, true, true, true, true, true, true, true, false, false, false, false, false, false, false, false, false, false] = true := by kernel_rfl
theorem rB16_16 : chk .any opsB16 25 [24, 23] #[true, true, true, true, true, true, true, true, true, true, true, true, true, true, true, true, false, false, false, false, false, false, false, false, false, false] 16 #[true, true, true, true, true, true, true, true, true, true, true, true, true, true, true, true, true, false, false, false, false, false, false, false, false, false] = true := by kernel_rfl
theorem rB16_17 : chk .any opsB16 25 [24, 23, 22, 21, 18] #[true, true, true, true, true, true, true, true, true, true, true, true, true, true, true, true, true, false, false, false, false, false, false, false, false, false] 17 #[true, true, true, true, true, true, true, true, true, true, true, true, true, true, true, true, true, true, false, false, false, false, false, false, false, false] = true := by kernel_rfl
theorem rB16_18 : chk .any opsB16 25 [24, 23, 22, 21] #[true, true, true, true, true, true, true, true, true, true, true, true, true, true, true, true, true, true, false, false, false, false, false, false, false, false] 18 #[true, true, true, true, true, true, true, true, true, true, true, true, true, true, true, true, true, true, true, false, false, false, false, false, false, false] = true := by kernel_rfl
theorem rB16_19 : chk .any opsB16 25 [24, 23, 22, 21, 20] #[true, true, true, true, true, true, true, true, true, true, true, true, true, true, true, true, true, true, true, false, false, false, false, false, false, false] 19 #[true, true, true, true, true, true, true, true, true, true, true, true, true, true, true, true, true, true, true, true, false, false, false, false, false, false] = true := by kernel_rfl
theorem rB16_20 : chk .any opsB16 25 [24, 23, 22, 21] #[true, true, true, true, true, true, true, true, true, true, true, true, true, true, true, true, true, true, true, true, false, false, false, false, false, false] 20 #[true, true, true, true, true, true, true, true, true, true, true, true, true, true, true, true, true, true, true, true, true, false, false, false, false, false] = true := by kernel_rfl
theorem rB16_21 : chk .any opsB16 25 [24, 23, 22] #[true, true, true, true, true, true, true, true, true, true, true, true, true, true, true, true, true, true, true, true, true, false, false, false, false, false] 21 #[true, true, true, true, true, true, true, true, true, true, true, true, true, true, true, true, true, true, true, true, true, true, false, false, false, false] = true := by kernel_rfl
theorem rB16_22 : chk .any opsB16 25 [24, 23] #[true, true, true, true, true, true, true, true, true, true, true, true, true, true, true, true, true, true, true, true, true, true, false, false, false, false] 22 #[true, true, true, true, true, true, true, true, true, true, true, true, true, true, true, true, true, true, true, true, true, true, true, false, false, false] = true := by kernel_rfl
theorem rB16_23 : chk .any opsB16 25 [24] #[true, true, true, true, true, true, true, true, true, true, true, true, true, true, true, true, true, true, true, true, true, true, true, false, false, false] 23 #[true, true, true, true, true, true, true, true, true, true, true, true, true, true, true, true, true, true, true, true, true, true, true, true, false, false] = true := by kernel_rfl
theorem rB16_24 : chk .any opsB16 25 [] #[true, true, true, true, true, true, true, true, true, true, true, true, true, true, true, true, true, true, true, true, true, true, true, true, false, false] 24 #[true, true, true, true, true, true, true, true, true, true, true, true, true, true, true, true, true, true, true, true, true, true, true, true, true, false] = true := by kernel_rfl
end Go.Proofs.YtnkmcoljijmgpaaGreat

set_option linter.unusedSimpArgs false
set_option linter.unusedVariables false
namespace Go.Proofs.YtnkmcoljijmgpaaGreat
open Go.RowKit Go.Shelf Go.Sort Go.Maps
attribute [local go_sem] Oper.semAt_some
/-- pool number k of a racer is not as it must be -/
def badP (np : Nat) (l : List Int) (k : Nat) : Bool := !isInB (l.getD k 0) 0 ((np : Int) - 1) || (decide (0 < k) && decide (l.getD k 0 ≤ l.getD (k - 1) 0))
theorem racerB_bad {np : Nat} {x : Rc} {k : Nat} (hk : k < x.pools.length) (h : badP np x.pools k = true) : racerB np x = false := by
  unfold racerB
  have h2 : (ascB x.pools && allU (fun i => isInB (x.pools.getD i 0) 0 ((np : Int) - 1)) x.pools.length) = false := by
    cases hq : (ascB x.pools && allU (fun i => isInB (x.pools.getD i 0) 0 ((np : Int) - 1)) x.pools.length)
    · rfl
    · simp only [Bool.and_eq_true] at hq
      have a := allU_iff.1 hq.2 k hk
      have b := allU_iff.1 hq.1 k hk
      unfold badP at h
      rw [a] at h
      simp only [Bool.not_true, Bool.false_or, Bool.and_eq_true, decide_eq_true_eq] at h
      simp only [Bool.or_eq_true, decide_eq_true_eq] at b
      omega
  rw [h2]
  simp
theorem racerB_good {np : Nat} {x : Rc} (h : ∀ k, k < x.pools.length → badP np x.pools k = false) : racerB np x = (isInB x.bird 0 9999 && (isInB x.owner 0 99 && rankB x)) := by
  unfold racerB
  have h1 : ascB x.pools = true := allU_iff.2 fun k hk => by
    have := h k hk
    unfold badP at this
    simp only [Bool.or_eq_false_iff, Bool.and_eq_false_iff, decide_eq_false_iff_not] at this
    simp only [Bool.or_eq_true, decide_eq_true_eq]
    omega
  have h2 : allU (fun i => isInB (x.pools.getD i 0) 0 ((np : Int) - 1)) x.pools.length = true := allU_iff.2 fun k hk => by
    have := h k hk
    unfold badP at this
    simp only [Bool.or_eq_false_iff, Bool.not_eq_false'] at this
    exact this.1
  rw [h1, h2]
  simp
theorem rankB_home (x : Rc) : rankB x = (isInB x.rank 1 12 && isInB x.day 1 2 || (decide (x.rank = 0) && decide (x.day = 0))) := by
  unfold rankB isInB
  by_cases h : x.day = 0
  · rw [if_pos h, h]
    simp
  · rw [if_neg h]
    simp only [h, decide_false, Bool.and_false, Bool.or_false]
    rw [Bool.and_comm]
set_option maxRecDepth 100000 in
set_option maxHeartbeats 8000000 in
theorem isRacer_any (x : Rc) (np : Nat) (w : World) (h : IntsAt w x.pa x.pools) (hl : x.pools.length ≤ 1000) (hp : np ≤ 1000) : Calls Tryz.prog 42 #[.agg x.v, .int .i64 np] w fun e w' => e = .returned (.bool (racerB np x)) ∧ G w w' := by
  have HBAD := Lib.hid (fun (k : Nat) (hk : k < x.pools.length) (hb : badP np x.pools k = true) => racerB_bad hk hb)
  have HGOOD := Lib.hid (fun (hh : ∀ k, k < x.pools.length → badP np x.pools k = false) => (racerB_good hh).trans (by rw [rankB_home]))
  have HF : Hid (∀ W', racerB np x = false → G w W' → ((Ending.returned (.bool false) = .returned (.bool (racerB np x))) ∧ G w W')) := fun W' a b => ⟨by rw [a], b⟩
  obtain ⟨zbird, zowner, zrank, zday, zpa, zpc, zpools⟩ := x
  unfold Rc.v
  dsimp only at *
  generalize racerB np ⟨zbird, zowner, zrank, zday, zpa, zpc, zpools⟩ = RB at *
  have g0 : G w (w.alloc (.cells #[.int .i64 zbird, .int .i64 zowner, .int .i64 zrank, .int .i64 zday, .slice zpa zpools.length zpc] 60)) := (G.rf _).a _
  have b0 : Blk (w.alloc (.cells #[.int .i64 zbird, .int .i64 zowner, .int .i64 zrank, .int .i64 zday, .slice zpa zpools.length zpc] 60)) w.heap.size 60 #[.int .i64 zbird, .int .i64 zowner, .int .i64 zrank, .int .i64 zday, .slice zpa zpools.length zpc] := Blk.new _ _ _
  have h0 := h.below g0
  clear h
  have x0 : IntKind.i64.wrap ((np : Int) - 1) = (np : Int) - 1 := IntWalk.i64_in _ (by omega)
  go_enter Tryz.func42, Tryz.ntmps42
  go_upto_region 1 with fail
  change Code.wp _ _ _ _ (w.alloc (.cells #[.int .i64 zbird, .int .i64 zowner, .int .i64 zrank, .int .i64 zday, .slice zpa zpools.length zpc] 60))
  generalize w.alloc (.cells #[.int .i64 zbird, .int .i64 zowner, .int .i64 zrank, .int .i64 zday, .slice zpa zpools.length zpc] 60) = W1 at *
  have m4 := b0.cell 4
  have l0 := b0.lt
  go_wp2_with fail
  clear m4 l0
  go_loopw [5] (fun i wr => ∃ k : Nat, k ≤ zpools.length ∧ i = .int .i64 k ∧ Hid (∀ j, j < k → badP np zpools j = false) ∧ G W1 wr) (fun i _ => zpools.length - (intOf i).toNat)
  case atStart => exact ⟨0, Nat.zero_le _, rfl, fun j hj => by omega, G.rf _⟩
  case round =>
    obtain ⟨k, hk, rfl, HN, hG⟩ := hrel
    obtain ⟨wo, rfl⟩ : ∃ wo, wo = wr := ⟨_, rfl⟩
    have bo := b0.keep hG
    have m4 := bo.cell 4
    have l0 := bo.lt
    by_cases hlt : k < zpools.length
    · have hki : (k : Int) < zpools.length := by omega
      rcases h0 with rfl | ⟨g, off, rfl, hg, hcell⟩
      · simp at hlt
      obtain ⟨q, hq⟩ : ∃ q, q = k - 1 := ⟨_, rfl⟩
      have hck := hcell k hlt
      have hcq := hcell q (by omega)
      have hbp : badP np zpools k = (!isInB (zpools.getD k 0) 0 ((np : Int) - 1) || (decide (0 < k) && decide (zpools.getD k 0 ≤ zpools.getD q 0))) := by rw [hq]; rfl
      obtain ⟨x, hx⟩ : ∃ x, x = zpools.getD k 0 := ⟨_, rfl⟩
      obtain ⟨y, hy⟩ : ∃ y, y = zpools.getD q 0 := ⟨_, rfl⟩
      rw [← hx] at hck hbp
      rw [← hy] at hcq hbp
      have hSk : ∀ W', G wo W' → Blk W' w.heap.size 60 #[.int .i64 zbird, .int .i64 zowner, .int .i64 zrank, .int .i64 zday, .slice (some ⟨g, off, none⟩) zpools.length zpc] ∧ W'.cell? ⟨g, off + k, none⟩ = some (.int .i64 x) ∧ W'.cell? ⟨g, off + q, none⟩ = some (.int .i64 y) := fun W' hW => ⟨bo.keep hW, ((bcellB (hG.t hW)).1 g _ hg).trans hck, ((bcellB (hG.t hW)).1 g _ hg).trans hcq⟩
      have HIN := Lib.hid (fun W => within_any x 0 ((np : Int) - 1) W)
      have HBP := Lib.hid hbp
      clear hcell hck hcq hx hy hbp
      cases hin : isInB x 0 ((np : Int) - 1)
      · have HB2 : Hid (badP np zpools k = true) := by show _ = _; rw [HBP.out, hin]; rfl
        rw [hin] at HIN
        clear hin HBP
        go_upto_region 4 with fail
        refine wp_region_Y (S := fun W' => Blk W' w.heap.size 60 #[.int .i64 zbird, .int .i64 zowner, .int .i64 zrank, .int .i64 zday, .slice (some ⟨g, off, none⟩) zpools.length zpc] ∧ W'.cell? ⟨g, off + k, none⟩ = some (.int .i64 x) ∧ W'.cell? ⟨g, off + q, none⟩ = some (.int .i64 y)) 26 27 rfl (by kernel_rfl) (hSk _ (G.rf _).d) (fun hS => ?_)
        have ga := (G.rf wo).d
        change wpAnyY _ _ opsA4 _ _ 26 27 #[false, false, false, false, false, false, false, false, false, false, false, false, false, false, false, false, false, false, false, false, false, false, false, false, false, false, false] _ _
        refine wpAnyY_takeC (v := ?_) [9, 7, 4, 3, 1] rA4_0 rA4o_0 (fun _ _ _ h => h) (Or.inl ⟨by kernel_rfl, ?_⟩) hS ?_
        rotate_left
        · intro w' hSw; have l0 := hSw.1.lt; go_simp; with_reducible rfl
        try simp only [Act.put, List.getElem_toArray, List.getElem_cons_zero, List.getElem_cons_succ, List.setIfInBounds_toArray, List.set_cons_zero, List.set_cons_succ]
        refine wpAnyY_takeC (v := ?_) [9, 7, 4, 3] rA4_1 rA4o_1 (fun _ _ _ h => h) (Or.inl ⟨by kernel_rfl, ?_⟩) hS ?_
        rotate_left
        · intro w' hSw; have m4 := hSw.1.cell 4; have l0 := hSw.1.lt; go_simp; with_reducible rfl
        try simp only [Act.put, List.getElem_toArray, List.getElem_cons_zero, List.getElem_cons_succ, List.setIfInBounds_toArray, List.set_cons_zero, List.set_cons_succ]
        refine wpAnyY_takeC (v := ?_) [9, 7, 4, 3] rA4_2 rA4o_2 (fun _ _ _ h => h) (Or.inl ⟨by kernel_rfl, ?_⟩) hS ?_
        rotate_left
        · intro w' hSw; go_simp; with_reducible rfl
        try simp only [Act.put, List.getElem_toArray, List.getElem_cons_zero, List.getElem_cons_succ, List.setIfInBounds_toArray, List.set_cons_zero, List.set_cons_succ]
        refine wpAnyY_takeC (v := ?_) [9, 7, 4] rA4_3 rA4o_3 (fun _ _ _ h => h) (Or.inl ⟨by kernel_rfl, ?_⟩) hS ?_
        rotate_left
        · intro w' hSw; go_simp; with_reducible rfl
        try simp only [Act.put, List.getElem_toArray, List.getElem_cons_zero, List.getElem_cons_succ, List.setIfInBounds_toArray, List.set_cons_zero, List.set_cons_succ]
        refine wpAnyY_takeC (v := ?_) [9, 7] rA4_4 rA4o_4 (fun _ _ _ h => h) (Or.inl ⟨by kernel_rfl, ?_⟩) hS ?_
        rotate_left
        · intro w' hSw; have q1 := hSw.2.1; go_simp; with_reducible rfl
        try simp only [Act.put, List.getElem_toArray, List.getElem_cons_zero, List.getElem_cons_succ, List.setIfInBounds_toArray, List.set_cons_zero, List.set_cons_succ]
        refine wpAnyY_takeC (v := ?_) [9, 7, 6] rA4_5 rA4o_5 (fun _ _ _ h => h) (Or.inl ⟨by kernel_rfl, ?_⟩) hS ?_
        rotate_left
        · intro w' hSw; go_simp; with_reducible rfl
        try simp only [Act.put, List.getElem_toArray, List.getElem_cons_zero, List.getElem_cons_succ, List.setIfInBounds_toArray, List.set_cons_zero, List.set_cons_succ]
        refine wpAnyY_takeC (v := ?_) [9, 7] rA4_6 rA4o_6 (fun _ _ _ h => h) (Or.inl ⟨by kernel_rfl, ?_⟩) hS ?_
        rotate_left
        · intro w' hSw; go_simp; with_reducible rfl
        try simp only [Act.put, List.getElem_toArray, List.getElem_cons_zero, List.getElem_cons_succ, List.setIfInBounds_toArray, List.set_cons_zero, List.set_cons_succ]
        refine wpAnyY_oneSWC rA4_7 rA4o_7 (by kernel_rfl) (fun K7 hK7 => ?_)
        go_simp
        refine (HIN.out _).mono ?_
        rintro e w5 ⟨rfl, hG5⟩
        replace ga := ga.t hG5
        refine hK7.out _ _ (hSk _ ga) (fun hS => ?_)
        clear hK7
        try simp only [Act.put, List.getElem_toArray, List.getElem_cons_zero, List.getElem_cons_succ, List.setIfInBounds_toArray, List.set_cons_zero, List.set_cons_succ]
        refine wpAnyY_takeC (v := ?_) [9] rA4_8 rA4o_8 (fun _ _ _ h => h) (Or.inl ⟨by kernel_rfl, ?_⟩) hS ?_
        rotate_left
        · intro w' hSw; go_simp; with_reducible rfl
        try simp only [Act.put, List.getElem_toArray, List.getElem_cons_zero, List.getElem_cons_succ, List.setIfInBounds_toArray, List.set_cons_zero, List.set_cons_succ]
        refine wpAnyY_takeC (v := ?_) [] rA4_9 rA4o_9 (fun _ _ _ h => h) (Or.inl ⟨by kernel_rfl, ?_⟩) hS ?_
        rotate_left
        · intro w' hSw; go_simp; with_reducible rfl
        try simp only [Act.put, List.getElem_toArray, List.getElem_cons_zero, List.getElem_cons_succ, List.setIfInBounds_toArray, List.set_cons_zero, List.set_cons_succ]
        refine wpAnyY_takeC (v := undef) [25, 12, 11] rA4_10 rA4o_10 (fun _ _ _ h => h) (Or.inr ⟨by kernel_rfl, rfl⟩) hS ?_
        try simp only [Act.put, List.getElem_toArray, List.getElem_cons_zero, List.getElem_cons_succ, List.setIfInBounds_toArray, List.set_cons_zero, List.set_cons_succ]
        refine wpAnyY_takeC (v := undef) [25, 12] rA4_11 rA4o_11 (fun _ _ _ h => h) (Or.inr ⟨by kernel_rfl, rfl⟩) hS ?_
        try simp only [Act.put, List.getElem_toArray, List.getElem_cons_zero, List.getElem_cons_succ, List.setIfInBounds_toArray, List.set_cons_zero, List.set_cons_succ]
        refine wpAnyY_takeC (v := undef) [25] rA4_12 rA4o_12 (fun _ _ _ h => h) (Or.inr ⟨by kernel_rfl, rfl⟩) hS ?_
        try simp only [Act.put, List.getElem_toArray, List.getElem_cons_zero, List.getElem_cons_succ, List.setIfInBounds_toArray, List.set_cons_zero, List.set_cons_succ]
        refine wpAnyY_takeC (v := undef) [25, 24, 17, 16, 14] rA4_13 rA4o_13 (fun _ _ _ h => h) (Or.inr ⟨by kernel_rfl, rfl⟩) hS ?_
        try simp only [Act.put, List.getElem_toArray, List.getElem_cons_zero, List.getElem_cons_succ, List.setIfInBounds_toArray, List.set_cons_zero, List.set_cons_succ]
        refine wpAnyY_takeC (v := undef) [25, 24, 17, 16] rA4_14 rA4o_14 (fun _ _ _ h => h) (Or.inr ⟨by kernel_rfl, rfl⟩) hS ?_
        try simp only [Act.put, List.getElem_toArray, List.getElem_cons_zero, List.getElem_cons_succ, List.setIfInBounds_toArray, List.set_cons_zero, List.set_cons_succ]
        refine wpAnyY_takeC (v := undef) [25, 24, 17, 16] rA4_15 rA4o_15 (fun _ _ _ h => h) (Or.inr ⟨by kernel_rfl, rfl⟩) hS ?_
        try simp only [Act.put, List.getElem_toArray, List.getElem_cons_zero, List.getElem_cons_succ, List.setIfInBounds_toArray, List.set_cons_zero, List.set_cons_succ]
        refine wpAnyY_takeC (v := undef) [25, 24, 17] rA4_16 rA4o_16 (fun _ _ _ h => h) (Or.inr ⟨by kernel_rfl, rfl⟩) hS ?_
        try simp only [Act.put, List.getElem_toArray, List.getElem_cons_zero, List.getElem_cons_succ, List.setIfInBounds_toArray, List.set_cons_zero, List.set_cons_succ]
        refine wpAnyY_takeC (v := undef) [25, 24] rA4_17 rA4o_17 (fun _ _ _ h => h) (Or.inr ⟨by kernel_rfl, rfl⟩) hS ?_
        try simp only [Act.put, List.getElem_toArray, List.getElem_cons_zero, List.getElem_cons_succ, List.setIfInBounds_toArray, List.set_cons_zero, List.set_cons_succ]
        refine wpAnyY_takeC (v := undef) [25, 24, 23, 22, 19] rA4_18 rA4o_18 (fun _ _ _ h => h) (Or.inr ⟨by kernel_rfl, rfl⟩) hS ?_
        try simp only [Act.put, List.getElem_toArray, List.getElem_cons_zero, List.getElem_cons_succ, List.setIfInBounds_toArray, List.set_cons_zero, List.set_cons_succ]
        refine wpAnyY_takeC (v := undef) [25, 24, 23, 22] rA4_19 rA4o_19 (fun _ _ _ h => h) (Or.inr ⟨by kernel_rfl, rfl⟩) hS ?_
        try simp only [Act.put, List.getElem_toArray, List.getElem_cons_zero, List.getElem_cons_succ, List.setIfInBounds_toArray, List.set_cons_zero, List.set_cons_succ]
        refine wpAnyY_takeC (v := undef) [25, 24, 23, 22, 21] rA4_20 rA4o_20 (fun _ _ _ h => h) (Or.inr ⟨by kernel_rfl, rfl⟩) hS ?_
        try simp only [Act.put, List.getElem_toArray, List.getElem_cons_zero, List.getElem_cons_succ, List.setIfInBounds_toArray, List.set_cons_zero, List.set_cons_succ]
        refine wpAnyY_takeC (v := undef) [25, 24, 23, 22] rA4_21 rA4o_21 (fun _ _ _ h => h) (Or.inr ⟨by kernel_rfl, rfl⟩) hS ?_
        try simp only [Act.put, List.getElem_toArray, List.getElem_cons_zero, List.getElem_cons_succ, List.setIfInBounds_toArray, List.set_cons_zero, List.set_cons_succ]
        refine wpAnyY_takeC (v := undef) [25, 24, 23] rA4_22 rA4o_22 (fun _ _ _ h => h) (Or.inr ⟨by kernel_rfl, rfl⟩) hS ?_
        try simp only [Act.put, List.getElem_toArray, List.getElem_cons_zero, List.getElem_cons_succ, List.setIfInBounds_toArray, List.set_cons_zero, List.set_cons_succ]
        refine wpAnyY_takeC (v := undef) [25, 24] rA4_23 rA4o_23 (fun _ _ _ h => h) (Or.inr ⟨by kernel_rfl, rfl⟩) hS ?_
        try simp only [Act.put, List.getElem_toArray, List.getElem_cons_zero, List.getElem_cons_succ, List.setIfInBounds_toArray, List.set_cons_zero, List.set_cons_succ]
        refine wpAnyY_takeC (v := undef) [25] rA4_24 rA4o_24 (fun _ _ _ h => h) (Or.inr ⟨by kernel_rfl, rfl⟩) hS ?_
        try simp only [Act.put, List.getElem_toArray, List.getElem_cons_zero, List.getElem_cons_succ, List.setIfInBounds_toArray, List.set_cons_zero, List.set_cons_succ]
        refine wpAnyY_takeC (v := undef) [] rA4_25 rA4o_25 (fun _ _ _ h => h) (Or.inr ⟨by kernel_rfl, rfl⟩) hS ?_
        try simp only [Act.put, List.getElem_toArray, List.getElem_cons_zero, List.getElem_cons_succ, List.setIfInBounds_toArray, List.set_cons_zero, List.set_cons_succ]
        refine wpAnyY_oneW (i := 26) (by kernel_rfl) rA4o_26 (by kernel_rfl) (by kernel_rfl) (fun K26 hK26 => ?_)
        go_simp
        refine hK26.out _ _ ?_
        clear hK26
        try simp only [Act.put, List.getElem_toArray, List.getElem_cons_zero, List.getElem_cons_succ, List.setIfInBounds_toArray, List.set_cons_zero, List.set_cons_succ]
        refine wpAnyY_done (by kernel_rfl) ?_ _
        clear hS hSk
        have hGz := hG.t ga
        have HZ := Lib.hid (HBAD.out k hlt HB2.out)
        go_wp2_with fail
        first | exact HF.out _ HZ.out (g0.t hGz) | (go_ret; exact HF.out _ HZ.out (g0.t hGz))
      · rw [hin] at HIN
        by_cases hk0 : k = 0
        · have hkn : ¬ (0 : Int) < (k : Int) := by omega
          have HOKK : Hid (badP np zpools k = false) := by show _ = _; rw [HBP.out, hin, show decide (0 < k) = false by simpa using hk0]; rfl
          have hd1 : decide ((0 : Int) < (k : Int)) = false := decide_eq_false hkn
          have hd2 : decide (0 < k) = false := by simpa using hk0
          clear hin HBP hk0
          go_upto_region 4 with fail
          refine wp_region_Y (S := fun W' => Blk W' w.heap.size 60 #[.int .i64 zbird, .int .i64 zowner, .int .i64 zrank, .int .i64 zday, .slice (some ⟨g, off, none⟩) zpools.length zpc] ∧ W'.cell? ⟨g, off + k, none⟩ = some (.int .i64 x) ∧ W'.cell? ⟨g, off + q, none⟩ = some (.int .i64 y)) 26 27 rfl (by kernel_rfl) (hSk _ (G.rf _).d) (fun hS => ?_)
          have ga := (G.rf wo).d
          change wpAnyY _ _ opsA4 _ _ 26 27 #[false, false, false, false, false, false, false, false, false, false, false, false, false, false, false, false, false, false, false, false, false, false, false, false, false, false, false] _ _
          refine wpAnyY_takeC (v := ?_) [9, 7, 4, 3, 1] rA4_0 rA4o_0 (fun _ _ _ h => h) (Or.inl ⟨by kernel_rfl, ?_⟩) hS ?_
          rotate_left
          · intro w' hSw; have l0 := hSw.1.lt; go_simp; with_reducible rfl
          try simp only [Act.put, List.getElem_toArray, List.getElem_cons_zero, List.getElem_cons_succ, List.setIfInBounds_toArray, List.set_cons_zero, List.set_cons_succ]
          refine wpAnyY_takeC (v := ?_) [9, 7, 4, 3] rA4_1 rA4o_1 (fun _ _ _ h => h) (Or.inl ⟨by kernel_rfl, ?_⟩) hS ?_
          rotate_left
          · intro w' hSw; have m4 := hSw.1.cell 4; have l0 := hSw.1.lt; go_simp; with_reducible rfl
          try simp only [Act.put, List.getElem_toArray, List.getElem_cons_zero, List.getElem_cons_succ, List.setIfInBounds_toArray, List.set_cons_zero, List.set_cons_succ]
          refine wpAnyY_takeC (v := ?_) [9, 7, 4, 3] rA4_2 rA4o_2 (fun _ _ _ h => h) (Or.inl ⟨by kernel_rfl, ?_⟩) hS ?_
          rotate_left
          · intro w' hSw; go_simp; with_reducible rfl
          try simp only [Act.put, List.getElem_toArray, List.getElem_cons_zero, List.getElem_cons_succ, List.setIfInBounds_toArray, List.set_cons_zero, List.set_cons_succ]
          refine wpAnyY_takeC (v := ?_) [9, 7, 4] rA4_3 rA4o_3 (fun _ _ _ h => h) (Or.inl ⟨by kernel_rfl, ?_⟩) hS ?_
          rotate_left
          · intro w' hSw; go_simp; with_reducible rfl
          try simp only [Act.put, List.getElem_toArray, List.getElem_cons_zero, List.getElem_cons_succ, List.setIfInBounds_toArray, List.set_cons_zero, List.set_cons_succ]
          refine wpAnyY_takeC (v := ?_) [9, 7] rA4_4 rA4o_4 (fun _ _ _ h => h) (Or.inl ⟨by kernel_rfl, ?_⟩) hS ?_
          rotate_left
          · intro w' hSw; have q1 := hSw.2.1; go_simp; with_reducible rfl
          try simp only [Act.put, List.getElem_toArray, List.getElem_cons_zero, List.getElem_cons_succ, List.setIfInBounds_toArray, List.set_cons_zero, List.set_cons_succ]
          refine wpAnyY_takeC (v := ?_) [9, 7, 6] rA4_5 rA4o_5 (fun _ _ _ h => h) (Or.inl ⟨by kernel_rfl, ?_⟩) hS ?_
          rotate_left
          · intro w' hSw; go_simp; with_reducible rfl
          try simp only [Act.put, List.getElem_toArray, List.getElem_cons_zero, List.getElem_cons_succ, List.setIfInBounds_toArray, List.set_cons_zero, List.set_cons_succ]
          refine wpAnyY_takeC (v := ?_) [9, 7] rA4_6 rA4o_6 (fun _ _ _ h => h) (Or.inl ⟨by kernel_rfl, ?_⟩) hS ?_
          rotate_left
          · intro w' hSw; go_simp; with_reducible rfl
          try simp only [Act.put, List.getElem_toArray, List.getElem_cons_zero, List.getElem_cons_succ, List.setIfInBounds_toArray, List.set_cons_zero, List.set_cons_succ]
          refine wpAnyY_oneSWC rA4_7 rA4o_7 (by kernel_rfl) (fun K7 hK7 => ?_)
          go_simp
          refine (HIN.out _).mono ?_
          rintro e w5 ⟨rfl, hG5⟩
          replace ga := ga.t hG5
          refine hK7.out _ _ (hSk _ ga) (fun hS => ?_)
          clear hK7
          try simp only [Act.put, List.getElem_toArray, List.getElem_cons_zero, List.getElem_cons_succ, List.setIfInBounds_toArray, List.set_cons_zero, List.set_cons_succ]
          refine wpAnyY_takeC (v := ?_) [9] rA4_8 rA4o_8 (fun _ _ _ h => h) (Or.inl ⟨by kernel_rfl, ?_⟩) hS ?_
          rotate_left
          · intro w' hSw; go_simp; with_reducible rfl
          try simp only [Act.put, List.getElem_toArray, List.getElem_cons_zero, List.getElem_cons_succ, List.setIfInBounds_toArray, List.set_cons_zero, List.set_cons_succ]
          refine wpAnyY_takeC (v := ?_) [] rA4_9 rA4o_9 (fun _ _ _ h => h) (Or.inl ⟨by kernel_rfl, ?_⟩) hS ?_
          rotate_left
          · intro w' hSw; go_simp; with_reducible rfl
          try simp only [Act.put, List.getElem_toArray, List.getElem_cons_zero, List.getElem_cons_succ, List.setIfInBounds_toArray, List.set_cons_zero, List.set_cons_succ]
          refine wpAnyY_takeC (v := ?_) [25, 12, 11] rA4_10 rA4o_10 (fun _ _ _ h => h) (Or.inl ⟨by kernel_rfl, ?_⟩) hS ?_
          rotate_left
          · intro w' hSw; go_simp; with_reducible rfl
          try simp only [Act.put, List.getElem_toArray, List.getElem_cons_zero, List.getElem_cons_succ, List.setIfInBounds_toArray, List.set_cons_zero, List.set_cons_succ]
          refine wpAnyY_takeC (v := ?_) [25, 12] rA4_11 rA4o_11 (fun _ _ _ h => h) (Or.inl ⟨by kernel_rfl, ?_⟩) hS ?_
          rotate_left
          · intro w' hSw; go_simp; with_reducible rfl
          try simp only [Act.put, List.getElem_toArray, List.getElem_cons_zero, List.getElem_cons_succ, List.setIfInBounds_toArray, List.set_cons_zero, List.set_cons_succ]
          refine wpAnyY_takeC (v := ?_) [25] rA4_12 rA4o_12 (fun _ _ _ h => h) (Or.inl ⟨by kernel_rfl, ?_⟩) hS ?_
          rotate_left
          · intro w' hSw; go_simp; with_reducible rfl
          try simp only [Act.put, List.getElem_toArray, List.getElem_cons_zero, List.getElem_cons_succ, List.setIfInBounds_toArray, List.set_cons_zero, List.set_cons_succ]
          refine wpAnyY_takeC (v := undef) [25, 24, 17, 16, 14] rA4_13 rA4o_13 (fun _ _ _ h => h) (Or.inr ⟨by kernel_rfl, rfl⟩) hS ?_
          try simp only [Act.put, List.getElem_toArray, List.getElem_cons_zero, List.getElem_cons_succ, List.setIfInBounds_toArray, List.set_cons_zero, List.set_cons_succ]
          refine wpAnyY_takeC (v := undef) [25, 24, 17, 16] rA4_14 rA4o_14 (fun _ _ _ h => h) (Or.inr ⟨by kernel_rfl, rfl⟩) hS ?_
          try simp only [Act.put, List.getElem_toArray, List.getElem_cons_zero, List.getElem_cons_succ, List.setIfInBounds_toArray, List.set_cons_zero, List.set_cons_succ]
          refine wpAnyY_takeC (v := undef) [25, 24, 17, 16] rA4_15 rA4o_15 (fun _ _ _ h => h) (Or.inr ⟨by kernel_rfl, rfl⟩) hS ?_
          try simp only [Act.put, List.getElem_toArray, List.getElem_cons_zero, List.getElem_cons_succ, List.setIfInBounds_toArray, List.set_cons_zero, List.set_cons_succ]
          refine wpAnyY_takeC (v := undef) [25, 24, 17] rA4_16 rA4o_16 (fun _ _ _ h => h) (Or.inr ⟨by kernel_rfl, rfl⟩) hS ?_
          try simp only [Act.put, List.getElem_toArray, List.getElem_cons_zero, List.getElem_cons_succ, List.setIfInBounds_toArray, List.set_cons_zero, List.set_cons_succ]
          refine wpAnyY_takeC (v := undef) [25, 24] rA4_17 rA4o_17 (fun _ _ _ h => h) (Or.inr ⟨by kernel_rfl, rfl⟩) hS ?_
          try simp only [Act.put, List.getElem_toArray, List.getElem_cons_zero, List.getElem_cons_succ, List.setIfInBounds_toArray, List.set_cons_zero, List.set_cons_succ]
          refine wpAnyY_takeC (v := undef) [25, 24, 23, 22, 19] rA4_18 rA4o_18 (fun _ _ _ h => h) (Or.inr ⟨by kernel_rfl, rfl⟩) hS ?_
          try simp only [Act.put, List.getElem_toArray, List.getElem_cons_zero, List.getElem_cons_succ, List.setIfInBounds_toArray, List.set_cons_zero, List.set_cons_succ]
          refine wpAnyY_takeC (v := undef) [25, 24, 23, 22] rA4_19 rA4o_19 (fun _ _ _ h => h) (Or.inr ⟨by kernel_rfl, rfl⟩) hS ?_
          try simp only [Act.put, List.getElem_toArray, List.getElem_cons_zero, List.getElem_cons_succ, List.setIfInBounds_toArray, List.set_cons_zero, List.set_cons_succ]
          refine wpAnyY_takeC (v := undef) [25, 24, 23, 22, 21] rA4_20 rA4o_20 (fun _ _ _ h => h) (Or.inr ⟨by kernel_rfl, rfl⟩) hS ?_
          try simp only [Act.put, List.getElem_toArray, List.getElem_cons_zero, List.getElem_cons_succ, List.setIfInBounds_toArray, List.set_cons_zero, List.set_cons_succ]
          refine wpAnyY_takeC (v := undef) [25, 24, 23, 22] rA4_21 rA4o_21 (fun _ _ _ h => h) (Or.inr ⟨by kernel_rfl, rfl⟩) hS ?_
          try simp only [Act.put, List.getElem_toArray, List.getElem_cons_zero, List.getElem_cons_succ, List.setIfInBounds_toArray, List.set_cons_zero, List.set_cons_succ]
          refine wpAnyY_takeC (v := undef) [25, 24, 23] rA4_22 rA4o_22 (fun _ _ _ h => h) (Or.inr ⟨by kernel_rfl, rfl⟩) hS ?_
          try simp only [Act.put, List.getElem_toArray, List.getElem_cons_zero, List.getElem_cons_succ, List.setIfInBounds_toArray, List.set_cons_zero, List.set_cons_succ]
          refine wpAnyY_takeC (v := undef) [25, 24] rA4_23 rA4o_23 (fun _ _ _ h => h) (Or.inr ⟨by kernel_rfl, rfl⟩) hS ?_
          try simp only [Act.put, List.getElem_toArray, List.getElem_cons_zero, List.getElem_cons_succ, List.setIfInBounds_toArray, List.set_cons_zero, List.set_cons_succ]
          refine wpAnyY_takeC (v := undef) [25] rA4_24 rA4o_24 (fun _ _ _ h => h) (Or.inr ⟨by kernel_rfl, rfl⟩) hS ?_
          try simp only [Act.put, List.getElem_toArray, List.getElem_cons_zero, List.getElem_cons_succ, List.setIfInBounds_toArray, List.set_cons_zero, List.set_cons_succ]
          refine wpAnyY_takeC (v := ?_) [] rA4_25 rA4o_25 (fun _ _ _ h => h) (Or.inl ⟨by kernel_rfl, ?_⟩) hS ?_
          rotate_left
          · intro w' hSw; go_simp; with_reducible rfl
          try simp only [Act.put, List.getElem_toArray, List.getElem_cons_zero, List.getElem_cons_succ, List.setIfInBounds_toArray, List.set_cons_zero, List.set_cons_succ]
          refine wpAnyY_oneW (i := 26) (by kernel_rfl) rA4o_26 (by kernel_rfl) (by kernel_rfl) (fun K26 hK26 => ?_)
          go_simp
          refine hK26.out _ _ ?_
          clear hK26
          try simp only [Act.put, List.getElem_toArray, List.getElem_cons_zero, List.getElem_cons_succ, List.setIfInBounds_toArray, List.set_cons_zero, List.set_cons_succ]
          refine wpAnyY_done (by kernel_rfl) ?_ _
          clear hS hSk
          have hGz := hG.t ga
          go_wp2_with fail
          go_roundw
          case rel => exact ⟨k + 1, by omega, by go_num, fun j hj => by
            rcases Nat.lt_or_ge j k with h4 | h4
            · exact HN.out j h4
            · obtain rfl : j = k := by omega
              exact HOKK.out, hGz⟩
          case measure => simp [intOf] <;> omega
        · have hkn : (0 : Int) < (k : Int) := by omega
          have hd1 : decide ((0 : Int) < (k : Int)) = true := decide_eq_true hkn
          have hk0n : 0 < k := by omega
          have hd2 : decide (0 < k) = true := decide_eq_true hk0n
          have x1 : IntKind.i64.wrap ((k : Int) - 1) = (q : Nat) := by rw [IntWalk.i64_in _ (by omega)]; omega
          have hqi : (q : Int) < zpools.length := by omega
          have hqn : q < zpools.length := by omega
          clear hq hk0
          by_cases hle : x ≤ y
          · have hdl : decide (x ≤ y) = true := decide_eq_true hle
            have HB2 : Hid (badP np zpools k = true) := by show _ = _; rw [HBP.out, hin, hd2, hdl]; rfl
            clear hin HBP
            go_upto_region 4 with fail
            refine wp_region_Y (S := fun W' => Blk W' w.heap.size 60 #[.int .i64 zbird, .int .i64 zowner, .int .i64 zrank, .int .i64 zday, .slice (some ⟨g, off, none⟩) zpools.length zpc] ∧ W'.cell? ⟨g, off + k, none⟩ = some (.int .i64 x) ∧ W'.cell? ⟨g, off + q, none⟩ = some (.int .i64 y)) 26 27 rfl (by kernel_rfl) (hSk _ (G.rf _).d) (fun hS => ?_)
            have ga := (G.rf wo).d
            change wpAnyY _ _ opsA4 _ _ 26 27 #[false, false, false, false, false, false, false, false, false, false, false, false, false, false, false, false, false, false, false, false, false, false, false, false, false, false, false] _ _
            refine wpAnyY_takeC (v := ?_) [9, 7, 4, 3, 1] rA4_0 rA4o_0 (fun _ _ _ h => h) (Or.inl ⟨by kernel_rfl, ?_⟩) hS ?_
            rotate_left
            · intro w' hSw; have l0 := hSw.1.lt; go_simp; with_reducible rfl
            try simp only [Act.put, List.getElem_toArray, List.getElem_cons_zero, List.getElem_cons_succ, List.setIfInBounds_toArray, List.set_cons_zero, List.set_cons_succ]
            refine wpAnyY_takeC (v := ?_) [9, 7, 4, 3] rA4_1 rA4o_1 (fun _ _ _ h => h) (Or.inl ⟨by kernel_rfl, ?_⟩) hS ?_
            rotate_left
            · intro w' hSw; have m4 := hSw.1.cell 4; have l0 := hSw.1.lt; go_simp; with_reducible rfl
            try simp only [Act.put, List.getElem_toArray, List.getElem_cons_zero, List.getElem_cons_succ, List.setIfInBounds_toArray, List.set_cons_zero, List.set_cons_succ]
            refine wpAnyY_takeC (v := ?_) [9, 7, 4, 3] rA4_2 rA4o_2 (fun _ _ _ h => h) (Or.inl ⟨by kernel_rfl, ?_⟩) hS ?_
            rotate_left
            · intro w' hSw; go_simp; with_reducible rfl
            try simp only [Act.put, List.getElem_toArray, List.getElem_cons_zero, List.getElem_cons_succ, List.setIfInBounds_toArray, List.set_cons_zero, List.set_cons_succ]
            refine wpAnyY_takeC (v := ?_) [9, 7, 4] rA4_3 rA4o_3 (fun _ _ _ h => h) (Or.inl ⟨by kernel_rfl, ?_⟩) hS ?_
            rotate_left
            · intro w' hSw; go_simp; with_reducible rfl
            try simp only [Act.put, List.getElem_toArray, List.getElem_cons_zero, List.getElem_cons_succ, List.setIfInBounds_toArray, List.set_cons_zero, List.set_cons_succ]
            refine wpAnyY_takeC (v := ?_) [9, 7] rA4_4 rA4o_4 (fun _ _ _ h => h) (Or.inl ⟨by kernel_rfl, ?_⟩) hS ?_
            rotate_left
            · intro w' hSw; have q1 := hSw.2.1; go_simp; with_reducible rfl
            try simp only [Act.put, List.getElem_toArray, List.getElem_cons_zero, List.getElem_cons_succ, List.setIfInBounds_toArray, List.set_cons_zero, List.set_cons_succ]
            refine wpAnyY_takeC (v := ?_) [9, 7, 6] rA4_5 rA4o_5 (fun _ _ _ h => h) (Or.inl ⟨by kernel_rfl, ?_⟩) hS ?_
            rotate_left
            · intro w' hSw; go_simp; with_reducible rfl
            try simp only [Act.put, List.getElem_toArray, List.getElem_cons_zero, List.getElem_cons_succ, List.setIfInBounds_toArray, List.set_cons_zero, List.set_cons_succ]
            refine wpAnyY_takeC (v := ?_) [9, 7] rA4_6 rA4o_6 (fun _ _ _ h => h) (Or.inl ⟨by kernel_rfl, ?_⟩) hS ?_
            rotate_left
            · intro w' hSw; go_simp; with_reducible rfl
            try simp only [Act.put, List.getElem_toArray, List.getElem_cons_zero, List.getElem_cons_succ, List.setIfInBounds_toArray, List.set_cons_zero, List.set_cons_succ]
            refine wpAnyY_oneSWC rA4_7 rA4o_7 (by kernel_rfl) (fun K7 hK7 => ?_)
            go_simp
            refine (HIN.out _).mono ?_
            rintro e w5 ⟨rfl, hG5⟩
            replace ga := ga.t hG5
            refine hK7.out _ _ (hSk _ ga) (fun hS => ?_)
            clear hK7
            try simp only [Act.put, List.getElem_toArray, List.getElem_cons_zero, List.getElem_cons_succ, List.setIfInBounds_toArray, List.set_cons_zero, List.set_cons_succ]
            refine wpAnyY_takeC (v := ?_) [9] rA4_8 rA4o_8 (fun _ _ _ h => h) (Or.inl ⟨by kernel_rfl, ?_⟩) hS ?_
            rotate_left
            · intro w' hSw; go_simp; with_reducible rfl
            try simp only [Act.put, List.getElem_toArray, List.getElem_cons_zero, List.getElem_cons_succ, List.setIfInBounds_toArray, List.set_cons_zero, List.set_cons_succ]
            refine wpAnyY_takeC (v := ?_) [] rA4_9 rA4o_9 (fun _ _ _ h => h) (Or.inl ⟨by kernel_rfl, ?_⟩) hS ?_
            rotate_left
            · intro w' hSw; go_simp; with_reducible rfl
            try simp only [Act.put, List.getElem_toArray, List.getElem_cons_zero, List.getElem_cons_succ, List.setIfInBounds_toArray, List.set_cons_zero, List.set_cons_succ]
            refine wpAnyY_takeC (v := ?_) [25, 12, 11] rA4_10 rA4o_10 (fun _ _ _ h => h) (Or.inl ⟨by kernel_rfl, ?_⟩) hS ?_
            rotate_left
            · intro w' hSw; go_simp; with_reducible rfl
            try simp only [Act.put, List.getElem_toArray, List.getElem_cons_zero, List.getElem_cons_succ, List.setIfInBounds_toArray, List.set_cons_zero, List.set_cons_succ]
            refine wpAnyY_takeC (v := ?_) [25, 12] rA4_11 rA4o_11 (fun _ _ _ h => h) (Or.inl ⟨by kernel_rfl, ?_⟩) hS ?_
            rotate_left
            · intro w' hSw; go_simp; with_reducible rfl
            try simp only [Act.put, List.getElem_toArray, List.getElem_cons_zero, List.getElem_cons_succ, List.setIfInBounds_toArray, List.set_cons_zero, List.set_cons_succ]
            refine wpAnyY_takeC (v := ?_) [25] rA4_12 rA4o_12 (fun _ _ _ h => h) (Or.inl ⟨by kernel_rfl, ?_⟩) hS ?_
            rotate_left
            · intro w' hSw; go_simp; with_reducible rfl
            try simp only [Act.put, List.getElem_toArray, List.getElem_cons_zero, List.getElem_cons_succ, List.setIfInBounds_toArray, List.set_cons_zero, List.set_cons_succ]
            refine wpAnyY_takeC (v := ?_) [25, 24, 17, 16, 14] rA4_13 rA4o_13 (fun _ _ _ h => h) (Or.inl ⟨by kernel_rfl, ?_⟩) hS ?_
            rotate_left
            · intro w' hSw; have l0 := hSw.1.lt; go_simp; with_reducible rfl
            try simp only [Act.put, List.getElem_toArray, List.getElem_cons_zero, List.getElem_cons_succ, List.setIfInBounds_toArray, List.set_cons_zero, List.set_cons_succ]
            refine wpAnyY_takeC (v := ?_) [25, 24, 17, 16] rA4_14 rA4o_14 (fun _ _ _ h => h) (Or.inl ⟨by kernel_rfl, ?_⟩) hS ?_
            rotate_left
            · intro w' hSw; have m4 := hSw.1.cell 4; have l0 := hSw.1.lt; go_simp; with_reducible rfl
            try simp only [Act.put, List.getElem_toArray, List.getElem_cons_zero, List.getElem_cons_succ, List.setIfInBounds_toArray, List.set_cons_zero, List.set_cons_succ]
            refine wpAnyY_takeC (v := ?_) [25, 24, 17, 16] rA4_15 rA4o_15 (fun _ _ _ h => h) (Or.inl ⟨by kernel_rfl, ?_⟩) hS ?_
            rotate_left
            · intro w' hSw; go_simp; with_reducible rfl
            try simp only [Act.put, List.getElem_toArray, List.getElem_cons_zero, List.getElem_cons_succ, List.setIfInBounds_toArray, List.set_cons_zero, List.set_cons_succ]
            refine wpAnyY_takeC (v := ?_) [25, 24, 17] rA4_16 rA4o_16 (fun _ _ _ h => h) (Or.inl ⟨by kernel_rfl, ?_⟩) hS ?_
            rotate_left
            · intro w' hSw; go_simp; with_reducible rfl
            try simp only [Act.put, List.getElem_toArray, List.getElem_cons_zero, List.getElem_cons_succ, List.setIfInBounds_toArray, List.set_cons_zero, List.set_cons_succ]
            refine wpAnyY_takeC (v := ?_) [25, 24] rA4_17 rA4o_17 (fun _ _ _ h => h) (Or.inl ⟨by kernel_rfl, ?_⟩) hS ?_
            rotate_left
            · intro w' hSw; have q1 := hSw.2.1; go_simp; with_reducible rfl
            try simp only [Act.put, List.getElem_toArray, List.getElem_cons_zero, List.getElem_cons_succ, List.setIfInBounds_toArray, List.set_cons_zero, List.set_cons_succ]
            refine wpAnyY_takeC (v := ?_) [25, 24, 23, 22, 19] rA4_18 rA4o_18 (fun _ _ _ h => h) (Or.inl ⟨by kernel_rfl, ?_⟩) hS ?_
            rotate_left
            · intro w' hSw; have l0 := hSw.1.lt; go_simp; with_reducible rfl
            try simp only [Act.put, List.getElem_toArray, List.getElem_cons_zero, List.getElem_cons_succ, List.setIfInBounds_toArray, List.set_cons_zero, List.set_cons_succ]
            refine wpAnyY_takeC (v := ?_) [25, 24, 23, 22] rA4_19 rA4o_19 (fun _ _ _ h => h) (Or.inl ⟨by kernel_rfl, ?_⟩) hS ?_
            rotate_left
            · intro w' hSw; have m4 := hSw.1.cell 4; have l0 := hSw.1.lt; go_simp; with_reducible rfl
            try simp only [Act.put, List.getElem_toArray, List.getElem_cons_zero, List.getElem_cons_succ, List.setIfInBounds_toArray, List.set_cons_zero, List.set_cons_succ]
            refine wpAnyY_takeC (v := ?_) [25, 24, 23, 22, 21] rA4_20 rA4o_20 (fun _ _ _ h => h) (Or.inl ⟨by kernel_rfl, ?_⟩) hS ?_
            rotate_left
            · intro w' hSw; go_simp; with_reducible rfl
            try simp only [Act.put, List.getElem_toArray, List.getElem_cons_zero, List.getElem_cons_succ, List.setIfInBounds_toArray, List.set_cons_zero, List.set_cons_succ]
            refine wpAnyY_takeC (v := ?_) [25, 24, 23, 22] rA4_21 rA4o_21 (fun _ _ _ h => h) (Or.inl ⟨by kernel_rfl, ?_⟩) hS ?_
            rotate_left
            · intro w' hSw; go_simp; with_reducible rfl
            try simp only [Act.put, List.getElem_toArray, List.getElem_cons_zero, List.getElem_cons_succ, List.setIfInBounds_toArray, List.set_cons_zero, List.set_cons_succ]
            refine wpAnyY_takeC (v := ?_) [25, 24, 23] rA4_22 rA4o_22 (fun _ _ _ h => h) (Or.inl ⟨by kernel_rfl, ?_⟩) hS ?_
            rotate_left
            · intro w' hSw; go_simp; with_reducible rfl
            try simp only [Act.put, List.getElem_toArray, List.getElem_cons_zero, List.getElem_cons_succ, List.setIfInBounds_toArray, List.set_cons_zero, List.set_cons_succ]
            refine wpAnyY_takeC (v := ?_) [25, 24] rA4_23 rA4o_23 (fun _ _ _ h => h) (Or.inl ⟨by kernel_rfl, ?_⟩) hS ?_
            rotate_left
            · intro w' hSw; have q2 := hSw.2.2; go_simp; with_reducible rfl
            try simp only [Act.put, List.getElem_toArray, List.getElem_cons_zero, List.getElem_cons_succ, List.setIfInBounds_toArray, List.set_cons_zero, List.set_cons_succ]
            refine wpAnyY_takeC (v := ?_) [25] rA4_24 rA4o_24 (fun _ _ _ h => h) (Or.inl ⟨by kernel_rfl, ?_⟩) hS ?_
            rotate_left
            · intro w' hSw; go_simp; with_reducible rfl
            try simp only [Act.put, List.getElem_toArray, List.getElem_cons_zero, List.getElem_cons_succ, List.setIfInBounds_toArray, List.set_cons_zero, List.set_cons_succ]
            refine wpAnyY_takeC (v := ?_) [] rA4_25 rA4o_25 (fun _ _ _ h => h) (Or.inl ⟨by kernel_rfl, ?_⟩) hS ?_
            rotate_left
            · intro w' hSw; go_simp; with_reducible rfl
            try simp only [Act.put, List.getElem_toArray, List.getElem_cons_zero, List.getElem_cons_succ, List.setIfInBounds_toArray, List.set_cons_zero, List.set_cons_succ]
            refine wpAnyY_oneW (i := 26) (by kernel_rfl) rA4o_26 (by kernel_rfl) (by kernel_rfl) (fun K26 hK26 => ?_)
            go_simp
            refine hK26.out _ _ ?_
            clear hK26
            try simp only [Act.put, List.getElem_toArray, List.getElem_cons_zero, List.getElem_cons_succ, List.setIfInBounds_toArray, List.set_cons_zero, List.set_cons_succ]
            refine wpAnyY_done (by kernel_rfl) ?_ _
            clear hS hSk
            have hGz := hG.t ga
            have HZ := Lib.hid (HBAD.out k hlt HB2.out)
            go_wp2_with fail
            first | exact HF.out _ HZ.out (g0.t hGz) | (go_ret; exact HF.out _ HZ.out (g0.t hGz))
          · have hdl : decide (x ≤ y) = false := decide_eq_false hle
            have HOKK : Hid (badP np zpools k = false) := by show _ = _; rw [HBP.out, hin, hd2, hdl]; rfl
            clear hin HBP
            go_upto_region 4 with fail
            refine wp_region_Y (S := fun W' => Blk W' w.heap.size 60 #[.int .i64 zbird, .int .i64 zowner, .int .i64 zrank, .int .i64 zday, .slice (some ⟨g, off, none⟩) zpools.length zpc] ∧ W'.cell? ⟨g, off + k, none⟩ = some (.int .i64 x) ∧ W'.cell? ⟨g, off + q, none⟩ = some (.int .i64 y)) 26 27 rfl (by kernel_rfl) (hSk _ (G.rf _).d) (fun hS => ?_)
            have ga := (G.rf wo).d
            change wpAnyY _ _ opsA4 _ _ 26 27 #[false, false, false, false, false, false, false, false, false, false, false, false, false, false, false, false, false, false, false, false, false, false, false, false, false, false, false] _ _
            refine wpAnyY_takeC (v := ?_) [9, 7, 4, 3, 1] rA4_0 rA4o_0 (fun _ _ _ h => h) (Or.inl ⟨by kernel_rfl, ?_⟩) hS ?_
            rotate_left
            · intro w' hSw; have l0 := hSw.1.lt; go_simp; with_reducible rfl
            try simp only [Act.put, List.getElem_toArray, List.getElem_cons_zero, List.getElem_cons_succ, List.setIfInBounds_toArray, List.set_cons_zero, List.set_cons_succ]
            refine wpAnyY_takeC (v := ?_) [9, 7, 4, 3] rA4_1 rA4o_1 (fun _ _ _ h => h) (Or.inl ⟨by kernel_rfl, ?_⟩) hS ?_
            rotate_left
            · intro w' hSw; have m4 := hSw.1.cell 4; have l0 := hSw.1.lt; go_simp; with_reducible rfl
            try simp only [Act.put, List.getElem_toArray, List.getElem_cons_zero, List.getElem_cons_succ, List.setIfInBounds_toArray, List.set_cons_zero, List.set_cons_succ]
            refine wpAnyY_takeC (v := ?_) [9, 7, 4, 3] rA4_2 rA4o_2 (fun _ _ _ h => h) (Or.inl ⟨by kernel_rfl, ?_⟩) hS ?_
            rotate_left
            · intro w' hSw; go_simp; with_reducible rfl
            try simp only [Act.put, List.getElem_toArray, List.getElem_cons_zero, List.getElem_cons_succ, List.setIfInBounds_toArray, List.set_cons_zero, List.set_cons_succ]
            refine wpAnyY_takeC (v := ?_) [9, 7, 4] rA4_3 rA4o_3 (fun _ _ _ h => h) (Or.inl ⟨by kernel_rfl, ?_⟩) hS ?_
            rotate_left
            · intro w' hSw; go_simp; with_reducible rfl
            try simp only [Act.put, List.getElem_toArray, List.getElem_cons_zero, List.getElem_cons_succ, List.setIfInBounds_toArray, List.set_cons_zero, List.set_cons_succ]
            refine wpAnyY_takeC (v := ?_) [9, 7] rA4_4 rA4o_4 (fun _ _ _ h => h) (Or.inl ⟨by kernel_rfl, ?_⟩) hS ?_
            rotate_left
            · intro w' hSw; have q1 := hSw.2.1; go_simp; with_reducible rfl
            try simp only [Act.put, List.getElem_toArray, List.getElem_cons_zero, List.getElem_cons_succ, List.setIfInBounds_toArray, List.set_cons_zero, List.set_cons_succ]
            refine wpAnyY_takeC (v := ?_) [9, 7, 6] rA4_5 rA4o_5 (fun _ _ _ h => h) (Or.inl ⟨by kernel_rfl, ?_⟩) hS ?_
            rotate_left
            · intro w' hSw; go_simp; with_reducible rfl
            try simp only [Act.put, List.getElem_toArray, List.getElem_cons_zero, List.getElem_cons_succ, List.setIfInBounds_toArray, List.set_cons_zero, List.set_cons_succ]
            refine wpAnyY_takeC (v := ?_) [9, 7] rA4_6 rA4o_6 (fun _ _ _ h => h) (Or.inl ⟨by kernel_rfl, ?_⟩) hS ?_
            rotate_left
            · intro w' hSw; go_simp; with_reducible rfl
            try simp only [Act.put, List.getElem_toArray, List.getElem_cons_zero, List.getElem_cons_succ, List.setIfInBounds_toArray, List.set_cons_zero, List.set_cons_succ]
            refine wpAnyY_oneSWC rA4_7 rA4o_7 (by kernel_rfl) (fun K7 hK7 => ?_)
            go_simp
            refine (HIN.out _).mono ?_
            rintro e w5 ⟨rfl, hG5⟩
            replace ga := ga.t hG5
            refine hK7.out _ _ (hSk _ ga) (fun hS => ?_)
            clear hK7
            try simp only [Act.put, List.getElem_toArray, List.getElem_cons_zero, List.getElem_cons_succ, List.setIfInBounds_toArray, List.set_cons_zero, List.set_cons_succ]
            refine wpAnyY_takeC (v := ?_) [9] rA4_8 rA4o_8 (fun _ _ _ h => h) (Or.inl ⟨by kernel_rfl, ?_⟩) hS ?_
            rotate_left
            · intro w' hSw; go_simp; with_reducible rfl
            try simp only [Act.put, List.getElem_toArray, List.getElem_cons_zero, List.getElem_cons_succ, List.setIfInBounds_toArray, List.set_cons_zero, List.set_cons_succ]
            refine wpAnyY_takeC (v := ?_) [] rA4_9 rA4o_9 (fun _ _ _ h => h) (Or.inl ⟨by kernel_rfl, ?_⟩) hS ?_
            rotate_left
            · intro w' hSw; go_simp; with_reducible rfl
            try simp only [Act.put, List.getElem_toArray, List.getElem_cons_zero, List.getElem_cons_succ, List.setIfInBounds_toArray, List.set_cons_zero, List.set_cons_succ]
            refine wpAnyY_takeC (v := ?_) [25, 12, 11] rA4_10 rA4o_10 (fun _ _ _ h => h) (Or.inl ⟨by kernel_rfl, ?_⟩) hS ?_
            rotate_left
            · intro w' hSw; go_simp; with_reducible rfl
            try simp only [Act.put, List.getElem_toArray, List.getElem_cons_zero, List.getElem_cons_succ, List.setIfInBounds_toArray, List.set_cons_zero, List.set_cons_succ]
            refine wpAnyY_takeC (v := ?_) [25, 12] rA4_11 rA4o_11 (fun _ _ _ h => h) (Or.inl ⟨by kernel_rfl, ?_⟩) hS ?_
            rotate_left
            · intro w' hSw; go_simp; with_reducible rfl
            try simp only [Act.put, List.getElem_toArray, List.getElem_cons_zero, List.getElem_cons_succ, List.setIfInBounds_toArray, List.set_cons_zero, List.set_cons_succ]
            refine wpAnyY_takeC (v := ?_) [25] rA4_12 rA4o_12 (fun _ _ _ h => h) (Or.inl ⟨by kernel_rfl, ?_⟩) hS ?_
            rotate_left
            · intro w' hSw; go_simp; with_reducible rfl
            try simp only [Act.put, List.getElem_toArray, List.getElem_cons_zero, List.getElem_cons_succ, List.setIfInBounds_toArray, List.set_cons_zero, List.set_cons_succ]
            refine wpAnyY_takeC (v := ?_) [25, 24, 17, 16, 14] rA4_13 rA4o_13 (fun _ _ _ h => h) (Or.inl ⟨by kernel_rfl, ?_⟩) hS ?_
            rotate_left
            · intro w' hSw; have l0 := hSw.1.lt; go_simp; with_reducible rfl
            try simp only [Act.put, List.getElem_toArray, List.getElem_cons_zero, List.getElem_cons_succ, List.setIfInBounds_toArray, List.set_cons_zero, List.set_cons_succ]
            refine wpAnyY_takeC (v := ?_) [25, 24, 17, 16] rA4_14 rA4o_14 (fun _ _ _ h => h) (Or.inl ⟨by kernel_rfl, ?_⟩) hS ?_
            rotate_left
            · intro w' hSw; have m4 := hSw.1.cell 4; have l0 := hSw.1.lt; go_simp; with_reducible rfl
            try simp only [Act.put, List.getElem_toArray, List.getElem_cons_zero, List.getElem_cons_succ, List.setIfInBounds_toArray, List.set_cons_zero, List.set_cons_succ]
            refine wpAnyY_takeC (v := ?_) [25, 24, 17, 16] rA4_15 rA4o_15 (fun _ _ _ h => h) (Or.inl ⟨by kernel_rfl, ?_⟩) hS ?_
            rotate_left
            · intro w' hSw; go_simp; with_reducible rfl
            try simp only [Act.put, List.getElem_toArray, List.getElem_cons_zero, List.getElem_cons_succ, List.setIfInBounds_toArray, List.set_cons_zero, List.set_cons_succ]
            refine wpAnyY_takeC (v := ?_) [25, 24, 17] rA4_16 rA4o_16 (fun _ _ _ h => h) (Or.inl ⟨by kernel_rfl, ?_⟩) hS ?_
            rotate_left
            · intro w' hSw; go_simp; with_reducible rfl
            try simp only [Act.put, List.getElem_toArray, List.getElem_cons_zero, List.getElem_cons_succ, List.setIfInBounds_toArray, List.set_cons_zero, List.set_cons_succ]
            refine wpAnyY_takeC (v := ?_) [25, 24] rA4_17 rA4o_17 (fun _ _ _ h => h) (Or.inl ⟨by kernel_rfl, ?_⟩) hS ?_
            rotate_left
            · intro w' hSw; have q1 := hSw.2.1; go_simp; with_reducible rfl
            try simp only [Act.put, List.getElem_toArray, List.getElem_cons_zero, List.getElem_cons_succ, List.setIfInBounds_toArray, List.set_cons_zero, List.set_cons_succ]
            refine wpAnyY_takeC (v := ?_) [25, 24, 23, 22, 19] rA4_18 rA4o_18 (fun _ _ _ h => h) (Or.inl ⟨by kernel_rfl, ?_⟩) hS ?_
            rotate_left
            · intro w' hSw; have l0 := hSw.1.lt; go_simp; with_reducible rfl
            try simp only [Act.put, List.getElem_toArray, List.getElem_cons_zero, List.getElem_cons_succ, List.setIfInBounds_toArray, List.set_cons_zero, List.set_cons_succ]
            refine wpAnyY_takeC (v := ?_) [25, 24, 23, 22] rA4_19 rA4o_19 (fun _ _ _ h => h) (Or.inl ⟨by kernel_rfl, ?_⟩) hS ?_
            rotate_left
            · intro w' hSw; have m4 := hSw.1.cell 4; have l0 := hSw.1.lt; go_simp; with_reducible rfl
            try simp only [Act.put, List.getElem_toArray, List.getElem_cons_zero, List.getElem_cons_succ, List.setIfInBounds_toArray, List.set_cons_zero, List.set_cons_succ]
            refine wpAnyY_takeC (v := ?_) [25, 24, 23, 22, 21] rA4_20 rA4o_20 (fun _ _ _ h => h) (Or.inl ⟨by kernel_rfl, ?_⟩) hS ?_
            rotate_left
            · intro w' hSw; go_simp; with_reducible rfl
            try simp only [Act.put, List.getElem_toArray, List.getElem_cons_zero, List.getElem_cons_succ, List.setIfInBounds_toArray, List.set_cons_zero, List.set_cons_succ]
            refine wpAnyY_takeC (v := ?_) [25, 24, 23, 22] rA4_21 rA4o_21 (fun _ _ _ h => h) (Or.inl ⟨by kernel_rfl, ?_⟩) hS ?_
            rotate_left
            · intro w' hSw; go_simp; with_reducible rfl
            try simp only [Act.put, List.getElem_toArray, List.getElem_cons_zero, List.getElem_cons_succ, List.setIfInBounds_toArray, List.set_cons_zero, List.set_cons_succ]
            refine wpAnyY_takeC (v := ?_) [25, 24, 23] rA4_22 rA4o_22 (fun _ _ _ h => h) (Or.inl ⟨by kernel_rfl, ?_⟩) hS ?_
            rotate_left
            · intro w' hSw; go_simp; with_reducible rfl
            try simp only [Act.put, List.getElem_toArray, List.getElem_cons_zero, List.getElem_cons_succ, List.setIfInBounds_toArray, List.set_cons_zero, List.set_cons_succ]
            refine wpAnyY_takeC (v := ?_) [25, 24] rA4_23 rA4o_23 (fun _ _ _ h => h) (Or.inl ⟨by kernel_rfl, ?_⟩) hS ?_
            rotate_left
            · intro w' hSw; have q2 := hSw.2.2; go_simp; with_reducible rfl
            try simp only [Act.put, List.getElem_toArray, List.getElem_cons_zero, List.getElem_cons_succ, List.setIfInBounds_toArray, List.set_cons_zero, List.set_cons_succ]
            refine wpAnyY_takeC (v := ?_) [25] rA4_24 rA4o_24 (fun _ _ _ h => h) (Or.inl ⟨by kernel_rfl, ?_⟩) hS ?_
            rotate_left
            · intro w' hSw; go_simp; with_reducible rfl
            try simp only [Act.put, List.getElem_toArray, List.getElem_cons_zero, List.getElem_cons_succ, List.setIfInBounds_toArray, List.set_cons_zero, List.set_cons_succ]
            refine wpAnyY_takeC (v := ?_) [] rA4_25 rA4o_25 (fun _ _ _ h => h) (Or.inl ⟨by kernel_rfl, ?_⟩) hS ?_
            rotate_left
            · intro w' hSw; go_simp; with_reducible rfl
            try simp only [Act.put, List.getElem_toArray, List.getElem_cons_zero, List.getElem_cons_succ, List.setIfInBounds_toArray, List.set_cons_zero, List.set_cons_succ]
            refine wpAnyY_oneW (i := 26) (by kernel_rfl) rA4o_26 (by kernel_rfl) (by kernel_rfl) (fun K26 hK26 => ?_)
            go_simp
            refine hK26.out _ _ ?_
            clear hK26
            try simp only [Act.put, List.getElem_toArray, List.getElem_cons_zero, List.getElem_cons_succ, List.setIfInBounds_toArray, List.set_cons_zero, List.set_cons_succ]
            refine wpAnyY_done (by kernel_rfl) ?_ _
            clear hS hSk
            have hGz := hG.t ga
            go_wp2_with fail
            go_roundw
            case rel => exact ⟨k + 1, by omega, by go_num, fun j hj => by
              rcases Nat.lt_or_ge j k with h4 | h4
              · exact HN.out j h4
              · obtain rfl : j = k := by omega
                exact HOKK.out, hGz⟩
            case measure => simp [intOf] <;> omega
    · obtain rfl : k = zpools.length := by omega
      have hki : ¬ ((zpools.length : Nat) : Int) < zpools.length := by omega
      have hgood := HGOOD.out HN.out
      have m0 := bo.cell 0
      have m1 := bo.cell 1
      have m2 := bo.cell 2
      have m3 := bo.cell 3
      have H1 := Lib.hid (fun W => within_any zrank 1 12 W)
      have H2 := Lib.hid (fun W => within_any zday 1 2 W)
      have H3 := Lib.hid (fun W => within_any zbird 0 9999 W)
      have H4 := Lib.hid (fun W => within_any zowner 0 99 W)
      have HP : Hid (∀ bb W', (isInB zbird 0 9999 && (isInB zowner 0 99 && (isInB zrank 1 12 && isInB zday 1 2 || decide (zrank = 0) && decide (zday = 0)))) = bb → G w W' → (Ending.returned (.bool bb) = .returned (.bool RB) ∧ G w W')) := fun bb W' a b => ⟨by rw [hgood, a], b⟩
      clear hgood HN HF HBAD HGOOD h0
      cases h1 : isInB zrank 1 12
      · have HHF : Hid ((isInB zrank 1 12 && isInB zday 1 2) = false) := by show _ = _; rw [h1]; rfl
        rw [h1] at H1
        clear h1
        cases h3 : isInB zbird 0 9999
        · have HV : ((isInB zbird 0 9999 && (isInB zowner 0 99 && (isInB zrank 1 12 && isInB zday 1 2 || decide (zrank = 0) && decide (zday = 0)))) = false) := by rw [h3]; rfl
          rw [h3] at H3
          clear h3
          go_wp2_with (first | (go_at_call 69; refine (H1.out _).mono ?_; rintro e wa ⟨rfl, hGa⟩; clear m0 m1 m2 m3 m4 l0 H1; have ba := bo.keep hGa; have m0 := ba.cell 0; have m1 := ba.cell 1; have m2 := ba.cell 2; have m3 := ba.cell 3; have l0 := ba.lt) | (go_at_call 69; refine (H3.out _).mono ?_; rintro e wc ⟨rfl, hGc⟩; clear m0 m1 m2 m3 l0 H3; have bc := ba.keep hGc; have m0 := bc.cell 0; have m1 := bc.cell 1; have m2 := bc.cell 2; have m3 := bc.cell 3; have l0 := bc.lt))
          have HZ := Lib.hid (HP.out false _ HV (g0.t ((hG.t hGa).t hGc)))
          first | exact HZ.out | (go_ret; exact HZ.out)
        · cases h4 : isInB zowner 0 99
          · have HV : ((isInB zbird 0 9999 && (isInB zowner 0 99 && (isInB zrank 1 12 && isInB zday 1 2 || decide (zrank = 0) && decide (zday = 0)))) = false) := by rw [h3, h4]; rfl
            rw [h3] at H3
            rw [h4] at H4
            clear h3 h4
            go_wp2_with (first | (go_at_call 69; refine (H1.out _).mono ?_; rintro e wa ⟨rfl, hGa⟩; clear m0 m1 m2 m3 m4 l0 H1; have ba := bo.keep hGa; have m0 := ba.cell 0; have m1 := ba.cell 1; have m2 := ba.cell 2; have m3 := ba.cell 3; have l0 := ba.lt) | (go_at_call 69; refine (H3.out _).mono ?_; rintro e wc ⟨rfl, hGc⟩; clear m0 m1 m2 m3 l0 H3; have bc := ba.keep hGc; have m0 := bc.cell 0; have m1 := bc.cell 1; have m2 := bc.cell 2; have m3 := bc.cell 3; have l0 := bc.lt) | (go_at_call 69; refine (H4.out _).mono ?_; rintro e wd ⟨rfl, hGd⟩; clear m0 m1 m2 m3 l0 H4; have bd := bc.keep hGd; have m0 := bd.cell 0; have m1 := bd.cell 1; have m2 := bd.cell 2; have m3 := bd.cell 3; have l0 := bd.lt))
            have HZ := Lib.hid (HP.out false _ HV (g0.t (((hG.t hGa).t hGc).t hGd)))
            first | exact HZ.out | (go_ret; exact HZ.out)
          · rw [h3] at H3
            rw [h4] at H4
            by_cases r0 : zrank = 0
            · by_cases d0 : zday = 0
              · have HV : ((isInB zbird 0 9999 && (isInB zowner 0 99 && (isInB zrank 1 12 && isInB zday 1 2 || decide (zrank = 0) && decide (zday = 0)))) = true) := by rw [h3, h4, HHF.out, decide_eq_true r0, decide_eq_true d0]; rfl
                have hrb : (zrank == 0) = true := by simpa using r0
                have hdb : (zday == 0) = true := by simpa using d0
                clear h3 h4 r0 d0
                go_wp2_with (first | (go_at_call 69; refine (H1.out _).mono ?_; rintro e wa ⟨rfl, hGa⟩; clear m0 m1 m2 m3 m4 l0 H1; have ba := bo.keep hGa; have m0 := ba.cell 0; have m1 := ba.cell 1; have m2 := ba.cell 2; have m3 := ba.cell 3; have l0 := ba.lt) | (go_at_call 69; refine (H3.out _).mono ?_; rintro e wc ⟨rfl, hGc⟩; clear m0 m1 m2 m3 l0 H3; have bc := ba.keep hGc; have m0 := bc.cell 0; have m1 := bc.cell 1; have m2 := bc.cell 2; have m3 := bc.cell 3; have l0 := bc.lt) | (go_at_call 69; refine (H4.out _).mono ?_; rintro e wd ⟨rfl, hGd⟩; clear m0 m1 m2 m3 l0 H4; have bd := bc.keep hGd; have m0 := bd.cell 0; have m1 := bd.cell 1; have m2 := bd.cell 2; have m3 := bd.cell 3; have l0 := bd.lt))
                have HZ := Lib.hid (HP.out true _ HV (g0.t (((hG.t hGa).t hGc).t hGd)))
                first | exact HZ.out | (go_ret; exact HZ.out)
              · have HV : ((isInB zbird 0 9999 && (isInB zowner 0 99 && (isInB zrank 1 12 && isInB zday 1 2 || decide (zrank = 0) && decide (zday = 0)))) = false) := by rw [h3, h4, HHF.out, decide_eq_true r0, decide_eq_false d0]; rfl
                have hrb : (zrank == 0) = true := by simpa using r0
                have hdb : (zday == 0) = false := by simpa using d0
                clear h3 h4 r0 d0
                go_wp2_with (first | (go_at_call 69; refine (H1.out _).mono ?_; rintro e wa ⟨rfl, hGa⟩; clear m0 m1 m2 m3 m4 l0 H1; have ba := bo.keep hGa; have m0 := ba.cell 0; have m1 := ba.cell 1; have m2 := ba.cell 2; have m3 := ba.cell 3; have l0 := ba.lt) | (go_at_call 69; refine (H3.out _).mono ?_; rintro e wc ⟨rfl, hGc⟩; clear m0 m1 m2 m3 l0 H3; have bc := ba.keep hGc; have m0 := bc.cell 0; have m1 := bc.cell 1; have m2 := bc.cell 2; have m3 := bc.cell 3; have l0 := bc.lt) | (go_at_call 69; refine (H4.out _).mono ?_; rintro e wd ⟨rfl, hGd⟩; clear m0 m1 m2 m3 l0 H4; have bd := bc.keep hGd; have m0 := bd.cell 0; have m1 := bd.cell 1; have m2 := bd.cell 2; have m3 := bd.cell 3; have l0 := bd.lt))
                have HZ := Lib.hid (HP.out false _ HV (g0.t (((hG.t hGa).t hGc).t hGd)))
                first | exact HZ.out | (go_ret; exact HZ.out)
            · have HV : ((isInB zbird 0 9999 && (isInB zowner 0 99 && (isInB zrank 1 12 && isInB zday 1 2 || decide (zrank = 0) && decide (zday = 0)))) = false) := by rw [h3, h4, HHF.out, decide_eq_false r0]; rfl
              have hrb : (zrank == 0) = false := by simpa using r0
              clear h3 h4 r0
              go_wp2_with (first | (go_at_call 69; refine (H1.out _).mono ?_; rintro e wa ⟨rfl, hGa⟩; clear m0 m1 m2 m3 m4 l0 H1; have ba := bo.keep hGa; have m0 := ba.cell 0; have m1 := ba.cell 1; have m2 := ba.cell 2; have m3 := ba.cell 3; have l0 := ba.lt) | (go_at_call 69; refine (H3.out _).mono ?_; rintro e wc ⟨rfl, hGc⟩; clear m0 m1 m2 m3 l0 H3; have bc := ba.keep hGc; have m0 := bc.cell 0; have m1 := bc.cell 1; have m2 := bc.cell 2; have m3 := bc.cell 3; have l0 := bc.lt) | (go_at_call 69; refine (H4.out _).mono ?_; rintro e wd ⟨rfl, hGd⟩; clear m0 m1 m2 m3 l0 H4; have bd := bc.keep hGd; have m0 := bd.cell 0; have m1 := bd.cell 1; have m2 := bd.cell 2; have m3 := bd.cell 3; have l0 := bd.lt))
              have HZ := Lib.hid (HP.out false _ HV (g0.t (((hG.t hGa).t hGc).t hGd)))
              first | exact HZ.out | (go_ret; exact HZ.out)
      · cases h2 : isInB zday 1 2
        · have HHF : Hid ((isInB zrank 1 12 && isInB zday 1 2) = false) := by show _ = _; rw [h1, h2]; rfl
          rw [h1] at H1
          rw [h2] at H2
          clear h1 h2
          cases h3 : isInB zbird 0 9999
          · have HV : ((isInB zbird 0 9999 && (isInB zowner 0 99 && (isInB zrank 1 12 && isInB zday 1 2 || decide (zrank = 0) && decide (zday = 0)))) = false) := by rw [h3]; rfl
            rw [h3] at H3
            clear h3
            go_wp2_with (first | (go_at_call 69; refine (H1.out _).mono ?_; rintro e wa ⟨rfl, hGa⟩; clear m0 m1 m2 m3 m4 l0 H1; have ba := bo.keep hGa; have m0 := ba.cell 0; have m1 := ba.cell 1; have m2 := ba.cell 2; have m3 := ba.cell 3; have l0 := ba.lt) | (go_at_call 69; refine (H2.out _).mono ?_; rintro e wb ⟨rfl, hGb⟩; clear m0 m1 m2 m3 l0 H2; have bb := ba.keep hGb; have m0 := bb.cell 0; have m1 := bb.cell 1; have m2 := bb.cell 2; have m3 := bb.cell 3; have l0 := bb.lt) | (go_at_call 69; refine (H3.out _).mono ?_; rintro e wc ⟨rfl, hGc⟩; clear m0 m1 m2 m3 l0 H3; have bc := bb.keep hGc; have m0 := bc.cell 0; have m1 := bc.cell 1; have m2 := bc.cell 2; have m3 := bc.cell 3; have l0 := bc.lt))
            have HZ := Lib.hid (HP.out false _ HV (g0.t (((hG.t hGa).t hGb).t hGc)))
            first | exact HZ.out | (go_ret; exact HZ.out)
          · cases h4 : isInB zowner 0 99
            · have HV : ((isInB zbird 0 9999 && (isInB zowner 0 99 && (isInB zrank 1 12 && isInB zday 1 2 || decide (zrank = 0) && decide (zday = 0)))) = false) := by rw [h3, h4]; rfl
              rw [h3] at H3
              rw [h4] at H4
              clear h3 h4
              go_wp2_with (first | (go_at_call 69; refine (H1.out _).mono ?_; rintro e wa ⟨rfl, hGa⟩; clear m0 m1 m2 m3 m4 l0 H1; have ba := bo.keep hGa; have m0 := ba.cell 0; have m1 := ba.cell 1; have m2 := ba.cell 2; have m3 := ba.cell 3; have l0 := ba.lt) | (go_at_call 69; refine (H2.out _).mono ?_; rintro e wb ⟨rfl, hGb⟩; clear m0 m1 m2 m3 l0 H2; have bb := ba.keep hGb; have m0 := bb.cell 0; have m1 := bb.cell 1; have m2 := bb.cell 2; have m3 := bb.cell 3; have l0 := bb.lt) | (go_at_call 69; refine (H3.out _).mono ?_; rintro e wc ⟨rfl, hGc⟩; clear m0 m1 m2 m3 l0 H3; have bc := bb.keep hGc; have m0 := bc.cell 0; have m1 := bc.cell 1; have m2 := bc.cell 2; have m3 := bc.cell 3; have l0 := bc.lt) | (go_at_call 69; refine (H4.out _).mono ?_; rintro e wd ⟨rfl, hGd⟩; clear m0 m1 m2 m3 l0 H4; have bd := bc.keep hGd; have m0 := bd.cell 0; have m1 := bd.cell 1; have m2 := bd.cell 2; have m3 := bd.cell 3; have l0 := bd.lt))
              have HZ := Lib.hid (HP.out false _ HV (g0.t ((((hG.t hGa).t hGb).t hGc).t hGd)))
              first | exact HZ.out | (go_ret; exact HZ.out)
            · rw [h3] at H3
              rw [h4] at H4
              by_cases r0 : zrank = 0
              · by_cases d0 : zday = 0
                · have HV : ((isInB zbird 0 9999 && (isInB zowner 0 99 && (isInB zrank 1 12 && isInB zday 1 2 || decide (zrank = 0) && decide (zday = 0)))) = true) := by rw [h3, h4, HHF.out, decide_eq_true r0, decide_eq_true d0]; rfl
                  have hrb : (zrank == 0) = true := by simpa using r0
                  have hdb : (zday == 0) = true := by simpa using d0
                  clear h3 h4 r0 d0
                  go_wp2_with (first | (go_at_call 69; refine (H1.out _).mono ?_; rintro e wa ⟨rfl, hGa⟩; clear m0 m1 m2 m3 m4 l0 H1; have ba := bo.keep hGa; have m0 := ba.cell 0; have m1 := ba.cell 1; have m2 := ba.cell 2; have m3 := ba.cell 3; have l0 := ba.lt) | (go_at_call 69; refine (H2.out _).mono ?_; rintro e wb ⟨rfl, hGb⟩; clear m0 m1 m2 m3 l0 H2; have bb := ba.keep hGb; have m0 := bb.cell 0; have m1 := bb.cell 1; have m2 := bb.cell 2; have m3 := bb.cell 3; have l0 := bb.lt) | (go_at_call 69; refine (H3.out _).mono ?_; rintro e wc ⟨rfl, hGc⟩; clear m0 m1 m2 m3 l0 H3; have bc := bb.keep hGc; have m0 := bc.cell 0; have m1 := bc.cell 1; have m2 := bc.cell 2; have m3 := bc.cell 3; have l0 := bc.lt) | (go_at_call 69; refine (H4.out _).mono ?_; rintro e wd ⟨rfl, hGd⟩; clear m0 m1 m2 m3 l0 H4; have bd := bc.keep hGd; have m0 := bd.cell 0; have m1 := bd.cell 1; have m2 := bd.cell 2; have m3 := bd.cell 3; have l0 := bd.lt))
                  have HZ := Lib.hid (HP.out true _ HV (g0.t ((((hG.t hGa).t hGb).t hGc).t hGd)))
                  first | exact HZ.out | (go_ret; exact HZ.out)
                · have HV : ((isInB zbird 0 9999 && (isInB zowner 0 99 && (isInB zrank 1 12 && isInB zday 1 2 || decide (zrank = 0) && decide (zday = 0)))) = false) := by rw [h3, h4, HHF.out, decide_eq_true r0, decide_eq_false d0]; rfl
                  have hrb : (zrank == 0) = true := by simpa using r0
                  have hdb : (zday == 0) = false := by simpa using d0
                  clear h3 h4 r0 d0
                  go_wp2_with (first | (go_at_call 69; refine (H1.out _).mono ?_; rintro e wa ⟨rfl, hGa⟩; clear m0 m1 m2 m3 m4 l0 H1; have ba := bo.keep hGa; have m0 := ba.cell 0; have m1 := ba.cell 1; have m2 := ba.cell 2; have m3 := ba.cell 3; have l0 := ba.lt) | (go_at_call 69; refine (H2.out _).mono ?_; rintro e wb ⟨rfl, hGb⟩; clear m0 m1 m2 m3 l0 H2; have bb := ba.keep hGb; have m0 := bb.cell 0; have m1 := bb.cell 1; have m2 := bb.cell 2; have m3 := bb.cell 3; have l0 := bb.lt) | (go_at_call 69; refine (H3.out _).mono ?_; rintro e wc ⟨rfl, hGc⟩; clear m0 m1 m2 m3 l0 H3; have bc := bb.keep hGc; have m0 := bc.cell 0; have m1 := bc.cell 1; have m2 := bc.cell 2; have m3 := bc.cell 3; have l0 := bc.lt) | (go_at_call 69; refine (H4.out _).mono ?_; rintro e wd ⟨rfl, hGd⟩; clear m0 m1 m2 m3 l0 H4; have bd := bc.keep hGd; have m0 := bd.cell 0; have m1 := bd.cell 1; have m2 := bd.cell 2; have m3 := bd.cell 3; have l0 := bd.lt))
                  have HZ := Lib.hid (HP.out false _ HV (g0.t ((((hG.t hGa).t hGb).t hGc).t hGd)))
                  first | exact HZ.out | (go_ret; exact HZ.out)
              · have HV : ((isInB zbird 0 9999 && (isInB zowner 0 99 && (isInB zrank 1 12 && isInB zday 1 2 || decide (zrank = 0) && decide (zday = 0)))) = false) := by rw [h3, h4, HHF.out, decide_eq_false r0]; rfl
                have hrb : (zrank == 0) = false := by simpa using r0
                clear h3 h4 r0
                go_wp2_with (first | (go_at_call 69; refine (H1.out _).mono ?_; rintro e wa ⟨rfl, hGa⟩; clear m0 m1 m2 m3 m4 l0 H1; have ba := bo.keep hGa; have m0 := ba.cell 0; have m1 := ba.cell 1; have m2 := ba.cell 2; have m3 := ba.cell 3; have l0 := ba.lt) | (go_at_call 69; refine (H2.out _).mono ?_; rintro e wb ⟨rfl, hGb⟩; clear m0 m1 m2 m3 l0 H2; have bb := ba.keep hGb; have m0 := bb.cell 0; have m1 := bb.cell 1; have m2 := bb.cell 2; have m3 := bb.cell 3; have l0 := bb.lt) | (go_at_call 69; refine (H3.out _).mono ?_; rintro e wc ⟨rfl, hGc⟩; clear m0 m1 m2 m3 l0 H3; have bc := bb.keep hGc; have m0 := bc.cell 0; have m1 := bc.cell 1; have m2 := bc.cell 2; have m3 := bc.cell 3; have l0 := bc.lt) | (go_at_call 69; refine (H4.out _).mono ?_; rintro e wd ⟨rfl, hGd⟩; clear m0 m1 m2 m3 l0 H4; have bd := bc.keep hGd; have m0 := bd.cell 0; have m1 := bd.cell 1; have m2 := bd.cell 2; have m3 := bd.cell 3; have l0 := bd.lt))
                have HZ := Lib.hid (HP.out false _ HV (g0.t ((((hG.t hGa).t hGb).t hGc).t hGd)))
                first | exact HZ.out | (go_ret; exact HZ.out)
        · have HH1 := Lib.hid h1
          have HH2 := Lib.hid h2
          rw [h1] at H1
          rw [h2] at H2
          clear h1 h2
          cases h3 : isInB zbird 0 9999
          · have HV : ((isInB zbird 0 9999 && (isInB zowner 0 99 && (isInB zrank 1 12 && isInB zday 1 2 || decide (zrank = 0) && decide (zday = 0)))) = false) := by rw [h3]; rfl
            rw [h3] at H3
            clear h3
            go_wp2_with (first | (go_at_call 69; refine (H1.out _).mono ?_; rintro e wa ⟨rfl, hGa⟩; clear m0 m1 m2 m3 m4 l0 H1; have ba := bo.keep hGa; have m0 := ba.cell 0; have m1 := ba.cell 1; have m2 := ba.cell 2; have m3 := ba.cell 3; have l0 := ba.lt) | (go_at_call 69; refine (H2.out _).mono ?_; rintro e wb ⟨rfl, hGb⟩; clear m0 m1 m2 m3 l0 H2; have bb := ba.keep hGb; have m0 := bb.cell 0; have m1 := bb.cell 1; have m2 := bb.cell 2; have m3 := bb.cell 3; have l0 := bb.lt) | (go_at_call 69; refine (H3.out _).mono ?_; rintro e wc ⟨rfl, hGc⟩; clear m0 m1 m2 m3 l0 H3; have bc := bb.keep hGc; have m0 := bc.cell 0; have m1 := bc.cell 1; have m2 := bc.cell 2; have m3 := bc.cell 3; have l0 := bc.lt))
            have HZ := Lib.hid (HP.out false _ HV (g0.t (((hG.t hGa).t hGb).t hGc)))
            first | exact HZ.out | (go_ret; exact HZ.out)
          · cases h4 : isInB zowner 0 99
            · have HV : ((isInB zbird 0 9999 && (isInB zowner 0 99 && (isInB zrank 1 12 && isInB zday 1 2 || decide (zrank = 0) && decide (zday = 0)))) = false) := by rw [h3, h4]; rfl
              rw [h3] at H3
              rw [h4] at H4
              clear h3 h4
              go_wp2_with (first | (go_at_call 69; refine (H1.out _).mono ?_; rintro e wa ⟨rfl, hGa⟩; clear m0 m1 m2 m3 m4 l0 H1; have ba := bo.keep hGa; have m0 := ba.cell 0; have m1 := ba.cell 1; have m2 := ba.cell 2; have m3 := ba.cell 3; have l0 := ba.lt) | (go_at_call 69; refine (H2.out _).mono ?_; rintro e wb ⟨rfl, hGb⟩; clear m0 m1 m2 m3 l0 H2; have bb := ba.keep hGb; have m0 := bb.cell 0; have m1 := bb.cell 1; have m2 := bb.cell 2; have m3 := bb.cell 3; have l0 := bb.lt) | (go_at_call 69; refine (H3.out _).mono ?_; rintro e wc ⟨rfl, hGc⟩; clear m0 m1 m2 m3 l0 H3; have bc := bb.keep hGc; have m0 := bc.cell 0; have m1 := bc.cell 1; have m2 := bc.cell 2; have m3 := bc.cell 3; have l0 := bc.lt) | (go_at_call 69; refine (H4.out _).mono ?_; rintro e wd ⟨rfl, hGd⟩; clear m0 m1 m2 m3 l0 H4; have bd := bc.keep hGd; have m0 := bd.cell 0; have m1 := bd.cell 1; have m2 := bd.cell 2; have m3 := bd.cell 3; have l0 := bd.lt))
              have HZ := Lib.hid (HP.out false _ HV (g0.t ((((hG.t hGa).t hGb).t hGc).t hGd)))
              first | exact HZ.out | (go_ret; exact HZ.out)
            · have HV : ((isInB zbird 0 9999 && (isInB zowner 0 99 && (isInB zrank 1 12 && isInB zday 1 2 || decide (zrank = 0) && decide (zday = 0)))) = true) := by rw [h3, h4, HH1.out, HH2.out]; rfl
              rw [h3] at H3
              rw [h4] at H4
              clear h3 h4
              go_wp2_with (first | (go_at_call 69; refine (H1.out _).mono ?_; rintro e wa ⟨rfl, hGa⟩; clear m0 m1 m2 m3 m4 l0 H1; have ba := bo.keep hGa; have m0 := ba.cell 0; have m1 := ba.cell 1; have m2 := ba.cell 2; have m3 := ba.cell 3; have l0 := ba.lt) | (go_at_call 69; refine (H2.out _).mono ?_; rintro e wb ⟨rfl, hGb⟩; clear m0 m1 m2 m3 l0 H2; have bb := ba.keep hGb; have m0 := bb.cell 0; have m1 := bb.cell 1; have m2 := bb.cell 2; have m3 := bb.cell 3; have l0 := bb.lt) | (go_at_call 69; refine (H3.out _).mono ?_; rintro e wc ⟨rfl, hGc⟩; clear m0 m1 m2 m3 l0 H3; have bc := bb.keep hGc; have m0 := bc.cell 0; have m1 := bc.cell 1; have m2 := bc.cell 2; have m3 := bc.cell 3; have l0 := bc.lt) | (go_at_call 69; refine (H4.out _).mono ?_; rintro e wd ⟨rfl, hGd⟩; clear m0 m1 m2 m3 l0 H4; have bd := bc.keep hGd; have m0 := bd.cell 0; have m1 := bd.cell 1; have m2 := bd.cell 2; have m3 := bd.cell 3; have l0 := bd.lt))
              have HZ := Lib.hid (HP.out true _ HV (g0.t ((((hG.t hGa).t hGb).t hGc).t hGd)))
              first | exact HZ.out | (go_ret; exact HZ.out)
end Go.Proofs.YtnkmcoljijmgpaaGreat

set_option linter.unusedSimpArgs false
set_option linter.unusedVariables false
namespace Go.Proofs.YtnkmcoljijmgpaaGreat
open Go.RowKit Go.Shelf Go.Sort Go.Maps
attribute [local go_sem] Oper.semAt_some
theorem pool_bad {x : Po} {k : Nat} (hk : k < x.table.length) (h : isInB (x.table.getD k 0) 0 1000 = false) : poolB x = false := by
  have hkb : kindB x = false := by
    unfold kindB
    split
    · have h1 : tableB x.table = false := by
        unfold tableB
        cases ha : allU (fun i => isInB (x.table.getD i 0) 0 1000) x.table.length
        · simp
        · have := allU_iff.1 ha k hk
          rw [h] at this
          cases this
      rw [h1]; rfl
    · have hl : ¬ x.table.length = 0 := by omega
      split
      · simp [hl]
      · split
        · simp [hl]
        · rfl
  unfold poolB
  rw [hkb]
  simp
theorem pool_good {x : Po} (h : ∀ k, k < x.table.length → isInB (x.table.getD k 0) 0 1000 = true) : poolB x = (isInB x.stake 0 100000 && (isInB x.cut 0 1000 && (if x.kind = 1 then (isInB x.table.length 1 8 && decide (sumTo x.table x.table.length ≤ 1000)) && decide (x.quota = 0) else if x.kind = 2 then decide (x.table.length = 0) && isInB x.quota 1 20 else if x.kind = 3 then decide (x.table.length = 0) && decide (x.quota = 0) else false))) := by
  have ha : allU (fun i => isInB (x.table.getD i 0) 0 1000) x.table.length = true := allU_iff.2 h
  unfold poolB kindB tableB
  rw [ha]
  unfold sumTo
  rw [List.take_length]
  simp
set_option maxRecDepth 100000 in
set_option maxHeartbeats 8000000 in
theorem isPool8_any (x : Po) (w : World) (h : IntsAt w x.ta x.table) (hl : x.table.length ≤ 1000) : Calls Tryz.prog 44 #[.agg x.v] w fun e w' => e = .returned (.bool (poolB x)) ∧ G w w' := by
  have HBAD := Lib.hid (fun (k : Nat) (hk : k < x.table.length) (hb : isInB (x.table.getD k 0) 0 1000 = false) => pool_bad hk hb)
  have HGOOD := Lib.hid (fun (hh : ∀ k, k < x.table.length → isInB (x.table.getD k 0) 0 1000 = true) => pool_good hh)
  have HP : Hid (∀ bb W', poolB x = bb → G w W' → ((Ending.returned (.bool bb) = .returned (.bool (poolB x))) ∧ G w W')) := fun bb W' a b => ⟨by rw [a], b⟩
  obtain ⟨ystake, ycut, ykind, yta, ytc, ytable, yquota, yfirst⟩ := x
  unfold Po.v
  dsimp only at *
  generalize poolB ⟨ystake, ycut, ykind, yta, ytc, ytable, yquota, yfirst⟩ = PB at *
  have g0 : G w (w.alloc (.cells #[.int .i64 ystake, .int .i64 ycut, .int .i64 ykind, .slice yta ytable.length ytc, .int .i64 yquota, .bool yfirst] 42)) := (G.rf _).a _
  have b0 : Blk (w.alloc (.cells #[.int .i64 ystake, .int .i64 ycut, .int .i64 ykind, .slice yta ytable.length ytc, .int .i64 yquota, .bool yfirst] 42)) w.heap.size 42 #[.int .i64 ystake, .int .i64 ycut, .int .i64 ykind, .slice yta ytable.length ytc, .int .i64 yquota, .bool yfirst] := Blk.new _ _ _
  have h0 := h.below g0
  clear h
  go_enter Tryz.func44, Tryz.ntmps44
  go_upto_region 1 with fail
  change Code.wp _ _ _ _ (w.alloc (.cells #[.int .i64 ystake, .int .i64 ycut, .int .i64 ykind, .slice yta ytable.length ytc, .int .i64 yquota, .bool yfirst] 42))
  generalize w.alloc (.cells #[.int .i64 ystake, .int .i64 ycut, .int .i64 ykind, .slice yta ytable.length ytc, .int .i64 yquota, .bool yfirst] 42) = W1 at *
  have m3 := b0.cell 3
  have l0 := b0.lt
  have HSN := Lib.hid (fun (k : Nat) (hk : k < ytable.length) => sumTo_succ ytable k hk)
  have HS0 : Hid (sumTo ytable 0 = 0) := by simp [sumTo, Hid]
  go_wp2_with fail
  clear m3 l0
  go_loopw [3, 4] (fun s i wr => ∃ k : Nat, k ≤ ytable.length ∧ i = .int .i64 k ∧ s = .int .i64 (sumTo ytable k) ∧ Hid (0 ≤ sumTo ytable k ∧ sumTo ytable k ≤ k * 1000) ∧ Hid (∀ j, j < k → isInB (ytable.getD j 0) 0 1000 = true) ∧ G W1 wr) (fun _ i _ => ytable.length - (intOf i).toNat)
  case atStart => exact ⟨0, Nat.zero_le _, rfl, by rw [HS0.out], by show 0 ≤ sumTo ytable 0 ∧ _; rw [HS0.out]; omega, fun j hj => by omega, G.rf _⟩
  case round =>
    obtain ⟨k, hk, rfl, rfl, HSB, HN, hG⟩ := hrel
    obtain ⟨wo, rfl⟩ : ∃ wo, wo = wr := ⟨_, rfl⟩
    have bo := b0.keep hG
    have m3 := bo.cell 3
    have l0 := bo.lt
    by_cases hlt : k < ytable.length
    · have hki : (k : Int) < ytable.length := by omega
      rcases h0 with rfl | ⟨g, off, rfl, hg, hcell⟩
      · simp at hlt
      have lg := Nat.lt_of_lt_of_le hg hG.size
      have hsn := HSN.out k hlt
      have hck := fun W (hW : G wo W) => ((bcellB (hG.t hW)).1 g (off + k) hg).trans (hcell k hlt)
      obtain ⟨x, hx⟩ : ∃ x, x = ytable.getD k 0 := ⟨_, rfl⟩
      have HX := Lib.hid hx
      rw [← hx] at hck hsn
      have HW := Lib.hid (fun W => within_any x 0 1000 W)
      have q0 := hck wo (G.rf _)
      clear hcell
      cases hin : isInB x 0 1000
      · rw [hin] at HW
        have hbad := HBAD.out k hlt (by rw [← hx]; exact hin)
        clear hx hin
        have HZ := Lib.hid (fun W' (hW : G wo W') => HP.out false W' hbad (g0.t (hG.t hW)))
        go_wp2_with (go_at_call 69; refine (HW.out _).mono ?_; rintro e w5 ⟨rfl, hG5⟩)
        have HZ2 := Lib.hid (HZ.out _ hG5)
        first | exact HZ2.out | (go_ret; exact HZ2.out)
      · rw [hin] at HW
        have HIN := Lib.hid hin
        have hxb : 0 ≤ x ∧ x ≤ 1000 := by unfold isInB at hin; simpa using hin
        have hsb := HSB.out
        clear hx hin
        obtain ⟨sk, hsk⟩ : ∃ sk, sk = sumTo ytable k := ⟨_, rfl⟩
        rw [← hsk] at hsn hsb ⊢
        have x1 : IntKind.i64.wrap (sk + x) = sk + x := IntWalk.i64_in _ (by omega)
        have HSN2 := Lib.hid hsn
        clear hsn hsk
        go_wp2_with (go_at_call 69; refine (HW.out _).mono ?_; rintro e w5 ⟨rfl, hG5⟩; clear m3 l0 q0 lg; have m3 := (bo.keep hG5).cell 3; have l0 := (bo.keep hG5).lt; have q0 := hck _ hG5; have lg := Nat.lt_of_lt_of_le hg (hG.t hG5).size)
        go_roundw
        case rel => exact ⟨k + 1, by omega, by go_num, by rw [HSN2.out], by show 0 ≤ sumTo ytable (k + 1) ∧ _; rw [HSN2.out]; omega, fun j hj => by
          rcases Nat.lt_or_ge j k with h4 | h4
          · exact HN.out j h4
          · obtain rfl : j = k := by omega
            rw [← HX.out]; exact HIN.out, hG.t hG5⟩
        case measure => simp [intOf] <;> omega
    · obtain rfl : k = ytable.length := by omega
      have hki : ¬ ((ytable.length : Nat) : Int) < ytable.length := by omega
      have hgood := HGOOD.out HN.out
      have HPZ := Lib.hid (fun bb W' (a : (isInB ystake 0 100000 && (isInB ycut 0 1000 && (if ykind = 1 then (isInB ytable.length 1 8 && decide (sumTo ytable ytable.length ≤ 1000)) && decide (yquota = 0) else if ykind = 2 then decide (ytable.length = 0) && isInB yquota 1 20 else if ykind = 3 then decide (ytable.length = 0) && decide (yquota = 0) else false))) = bb) (hW : G wo W') => HP.out bb W' (by rw [hgood, a]) (g0.t (hG.t hW)))
      have HSTK := Lib.hid (fun W => within_any ystake 0 100000 W)
      have HCUT := Lib.hid (fun W => within_any ycut 0 1000 W)
      have HLEN := Lib.hid (fun W => within_any (ytable.length : Nat) 1 8 W)
      have HQUO := Lib.hid (fun W => within_any yquota 1 20 W)
      have m0 := bo.cell 0
      have m1 := bo.cell 1
      have m2 := bo.cell 2
      have m4 := bo.cell 4
      clear hgood HP HBAD HGOOD HN h0
      obtain ⟨SM, hSM⟩ : ∃ SM, SM = sumTo ytable ytable.length := ⟨_, rfl⟩
      rw [← hSM] at HPZ ⊢
      clear hSM HSN HS0 HSB
      cases hst : isInB ystake 0 100000
      · rw [hst] at HSTK HPZ
        clear hst
        go_wp2_with (go_at_call 69; refine (HSTK.out _).mono ?_; rintro e w5 ⟨rfl, hG5⟩)
        have HZ := Lib.hid (HPZ.out false _ rfl hG5)
        first | exact HZ.out | (go_ret; exact HZ.out)
      · rw [hst] at HSTK HPZ
        clear hst
        cases hcu : isInB ycut 0 1000
        · rw [hcu] at HCUT HPZ
          clear hcu
          go_wp2_with (first | (go_at_call 69; refine (HSTK.out _).mono ?_; rintro e w5 ⟨rfl, hG5⟩; clear m0 m1 m2 m3 m4 l0 HSTK; have m1 := (bo.keep hG5).cell 1; have l0 := (bo.keep hG5).lt) | (go_at_call 69; refine (HCUT.out _).mono ?_; rintro e w6 ⟨rfl, hG6⟩))
          have HZ := Lib.hid (HPZ.out false _ rfl (hG5.t hG6))
          first | exact HZ.out | (go_ret; exact HZ.out)
        · rw [hcu] at HCUT HPZ
          clear hcu
          go_upto_region 10 with (first | (go_at_call 69; refine (HSTK.out _).mono ?_; rintro e w5 ⟨rfl, hG5⟩; clear m0 m1 m2 m3 m4 l0 HSTK; have m1 := (bo.keep hG5).cell 1; have l0 := (bo.keep hG5).lt) | (go_at_call 69; refine (HCUT.out _).mono ?_; rintro e w6 ⟨rfl, hG6⟩))
          have h56 := hG5.t hG6
          have bz := bo.keep h56
          have HPW := Lib.hid (fun bb W' a (hW : G w6 W') => HPZ.out bb W' a (h56.t hW))
          clear m1 l0 HCUT HPZ hG5 hG6 bo
          have m2 := bz.cell 2
          have m3 := bz.cell 3
          have m4 := bz.cell 4
          have l0 := bz.lt
          by_cases hk1 : ykind = 1
          · subst hk1
            simp only [if_true, Bool.true_and] at HPW
            cases hle : isInB (ytable.length : Nat) 1 8
            · rw [hle] at HLEN HPW
              clear hle
              go_wp2_with (go_at_call 69; refine (HLEN.out _).mono ?_; rintro e w7 ⟨rfl, hG7⟩)
              have HZ := Lib.hid (HPW.out false _ rfl hG7)
              first | exact HZ.out | (go_ret; exact HZ.out)
            · rw [hle] at HLEN HPW
              clear hle
              by_cases hsm : SM ≤ 1000
              · by_cases hq : yquota = 0
                · go_wp2_with (go_at_call 69; refine (HLEN.out _).mono ?_; rintro e w7 ⟨rfl, hG7⟩; clear m2 m3 m4 l0; have m4 := (bz.keep hG7).cell 4; have l0 := (bz.keep hG7).lt)
                  have HZ := Lib.hid (HPW.out true _ (by simp [hsm, hq]) hG7)
                  first | exact HZ.out | (go_ret; exact HZ.out)
                · have hqb : (yquota == 0) = false := by simpa using hq
                  go_wp2_with (go_at_call 69; refine (HLEN.out _).mono ?_; rintro e w7 ⟨rfl, hG7⟩; clear m2 m3 m4 l0; have m4 := (bz.keep hG7).cell 4; have l0 := (bz.keep hG7).lt)
                  have HZ := Lib.hid (HPW.out false _ (by simp [hq]) hG7)
                  first | exact HZ.out | (go_ret; exact HZ.out) | (go_ret; rw [hqb]; exact HZ.out)
              · have hsb : decide (SM ≤ 1000) = false := decide_eq_false hsm
                go_wp2_with (go_at_call 69; refine (HLEN.out _).mono ?_; rintro e w7 ⟨rfl, hG7⟩)
                have HZ := Lib.hid (HPW.out false _ (by rw [hsb]; simp) hG7)
                first | exact HZ.out | (go_ret; exact HZ.out) | (go_ret; rw [hsb]; exact HZ.out)
          · by_cases hk2 : ykind = 2
            · subst hk2
              simp only [show ¬ ((2 : Int) = 1) by decide, if_false, if_true, Bool.true_and] at HPW
              by_cases hn : ytable.length = 0
              · have hni : ((ytable.length : Nat) : Int) = 0 := by omega
                cases hqu : isInB yquota 1 20
                · rw [hqu] at HQUO HPW
                  clear hqu
                  go_wp2_with (go_at_call 69; refine (HQUO.out _).mono ?_; rintro e w7 ⟨rfl, hG7⟩)
                  have HZ := Lib.hid (HPW.out false _ (by simp) hG7)
                  first | exact HZ.out | (go_ret; exact HZ.out)
                · rw [hqu] at HQUO HPW
                  clear hqu
                  go_wp2_with (go_at_call 69; refine (HQUO.out _).mono ?_; rintro e w7 ⟨rfl, hG7⟩)
                  have HZ := Lib.hid (HPW.out true _ (by simp [hn]) hG7)
                  first | exact HZ.out | (go_ret; exact HZ.out)
              · have hni : ¬ ((ytable.length : Nat) : Int) = 0 := by omega
                go_wp2_with fail
                have HZ := Lib.hid (HPW.out false _ (by simp [hn]) (G.rf _))
                first | exact HZ.out | (go_ret; exact HZ.out)
            · by_cases hk3 : ykind = 3
              · subst hk3
                simp only [show ¬ ((3 : Int) = 1) by decide, show ¬ ((3 : Int) = 2) by decide, if_false, if_true, Bool.true_and] at HPW
                by_cases hn : ytable.length = 0
                · have hni : ((ytable.length : Nat) : Int) = 0 := by omega
                  by_cases hq : yquota = 0
                  · go_wp2_with fail
                    have HZ := Lib.hid (HPW.out true _ (by simp [hn, hq]) (G.rf _))
                    first | exact HZ.out | (go_ret; exact HZ.out)
                  · have hqb : (yquota == 0) = false := by simpa using hq
                    go_wp2_with fail
                    have HZ := Lib.hid (HPW.out false _ (by simp [hq]) (G.rf _))
                    first | exact HZ.out | (go_ret; exact HZ.out) | (go_ret; rw [hqb]; exact HZ.out)
                · have hni : ¬ ((ytable.length : Nat) : Int) = 0 := by omega
                  go_wp2_with fail
                  have HZ := Lib.hid (HPW.out false _ (by simp [hn]) (G.rf _))
                  first | exact HZ.out | (go_ret; exact HZ.out)
              · simp only [hk1, hk2, hk3, if_false, Bool.true_and] at HPW
                have e1 : (ykind == 1) = false := by simpa using hk1
                have e2 : (ykind == 2) = false := by simpa using hk2
                have e3 : (ykind == 3) = false := by simpa using hk3
                go_wp2_with fail
                have HZ := Lib.hid (HPW.out false _ rfl (G.rf _))
                first | exact HZ.out | (go_ret; exact HZ.out)
end Go.Proofs.YtnkmcoljijmgpaaGreat

