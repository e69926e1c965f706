import Derived.Below
import Derived.BigQuiet
import Derived.ChangeOld
import Derived.Deep.AppendLies
import Derived.Deep.Draws
import Derived.Deep.QuietTactic
import Derived.Deep.RegionHeld
import Derived.Deep.Slices
import Derived.Ground.Names2Prog
import Derived.Ground.SlsfProg
import Derived.Ground.SlsoProg
import Derived.IntWalk
import Derived.Laws.AppendOwn
import Derived.Laws.AppendOwnNone
import Derived.Laws.Bits128
import Derived.Laws.OwnMore
import Derived.Laws.Rows
import Derived.Laws.StructEq
import Derived.Lib.Hide
import Derived.Lib.SlKeysI
import Derived.Lib.SliceRun
import Derived.Lib.SmallJoins
import Derived.LoopIn
import Derived.LoopNIn
import Derived.Maps.RangeWalk
import Derived.OpenShut
import Derived.OrdersHeld
import Derived.OrdersIn
import Derived.Outline
import Derived.OwnWalkIn
import Derived.ProofKit
import Derived.RangeFuncBound
import Derived.RangeFuncCalls
import Derived.RangeFuncLeaves
import Derived.RangeFuncNested
import Derived.Shelf.Abstract
import Derived.Shelf.GgSortFunc.InsertionK
import Derived.Shelf.RegionOpen
import Derived.Shelf.SlSortCmp.NoneTotal
import Derived.Shelf.SlSortCmp.WholeK
import Derived.Shelf.SlSorted.Search
import Derived.Shelf.Slices.Cells
import Derived.Shelf.Slices.CompactI
import Derived.Shelf.Slices.In.SortNone
import Derived.Shelf.Slices.SearchI
import Derived.Shelf.Small.Bits
import Derived.Shelf.Sort.Plain
import Derived.Shelf.Strconv.Itoa0
import Derived.Sort.Grow
import Derived.Sort.MapsRangeIn
import Derived.TacticsIn
import Derived.TacticsInMore
import Derived.Test.YtnkmcoljijmgpaaGreatProg
import Derived.WalkKit
import Derived.WalkSpells
import Derived.Test.YtnkmcoljijmgpaaGreatS4
set_option linter.unusedSimpArgs false
set_option linter.unusedVariables false
namespace Go.Proofs.YtnkmcoljijmgpaaGreat
open Go.RowKit Go.Shelf
attribute [local go_sem] Oper.semAt_some

/-- a place of a map -/
abbrev Pl (cols rows : Nat) := { p : Nat × Nat // p.1 < cols ∧ p.2 < rows }
end Go.Proofs.YtnkmcoljijmgpaaGreat
set_option linter.unusedSimpArgs false
set_option linter.unusedVariables false
namespace Go.Proofs.YtnkmcoljijmgpaaGreat
open Go.RowKit

section
variable {P : Program} {ops : Array Oper} {md : Region.Mode} {l : Option Nat} {n : Nat} {Q : Exit → Act → World → Prop}
end
end Go.Proofs.YtnkmcoljijmgpaaGreat
set_option linter.unusedSimpArgs false
set_option linter.unusedVariables false
namespace Go.Proofs.YtnkmcoljijmgpaaGreat
open Go.RowKit Go.Shelf

section
variable {R : Nat → Prop} {A B C : World}
end

variable {F : Fence} {n : Nat} {P : Program}
end Go.Proofs.YtnkmcoljijmgpaaGreat
set_option linter.unusedSimpArgs false
set_option linter.unusedVariables false
namespace Go.Proofs.YtnkmcoljijmgpaaGreat
open Go.RowKit

section
variable {P : Program} {ops : Array Oper} {md : Region.Mode} {Q : Exit → Act → World → Prop} {S : World → Prop} {z : Nat}
end

end Go.Proofs.YtnkmcoljijmgpaaGreat
set_option linter.unusedSimpArgs false
set_option linter.unusedVariables false
namespace Go.Proofs.YtnkmcoljijmgpaaGreat
open Go.RowKit

section
variable {P : Program} {ops : Array Oper} {md : Region.Mode} {Q : Exit → Act → World → Prop} {S : World → Prop} {z : Nat}
end
end Go.Proofs.YtnkmcoljijmgpaaGreat
set_option linter.unusedSimpArgs false
set_option linter.unusedVariables false
namespace Go.Proofs.YtnkmcoljijmgpaaGreat
open Go.RowKit Go.Shelf
attribute [local go_sem] Oper.semAt_some

attribute [local go_sem] wide_fn wide_dep wideR_fn wideR_dep ptV

section
variable (north : Int) (cols : Nat) (east : List Int) (svs : List Sv)
end

end Go.Proofs.YtnkmcoljijmgpaaGreat
set_option linter.unusedSimpArgs false
set_option linter.unusedVariables false
namespace Go.Proofs.YtnkmcoljijmgpaaGreat
open Go.RowKit Go.Shelf
attribute [local go_sem] Oper.semAt_some wide_fn wide_dep

end Go.Proofs.YtnkmcoljijmgpaaGreat
set_option linter.unusedSimpArgs false
set_option linter.unusedVariables false
namespace Go.Proofs.YtnkmcoljijmgpaaGreat
open Go.RowKit Go.Shelf
attribute [local go_sem] Oper.semAt_some wide_fn wide_dep wideR_fn wideR_dep

section
variable {F : Fence} {n : Nat} {P : Program}
end

def ApInv (w : World) (pre : List Int) (W : World) : Prop :=
  ∃ v, Blk W w.heap.size 24 #[v] ∧ W.ownsRow (w.heap.size + 1) 3 1 v pre.length (pre.map (Value.int .i64)) ∧ G w W ∧ w.heap.size + 1 ≤ W.heap.size
theorem apInv_own (w : World) (B : Nat) (hB : w.heap.size + 1 ≤ B) : OwnFrom B (ApInv w) := by
  rintro pre X Y row ⟨v, b1, hr, hG, hs⟩ hg hrow
  have hn : some w.heap.size ≠ row := fun e => by
    obtain ⟨_, o, ho, hc⟩ := hrow _ e.symm
    rw [show X.heap[w.heap.size]? = _ from b1] at ho; cases ho; cases hc
  exact ⟨v, b1.grown hg hn, ownsRow_kept' hr hg (fun r e => (hrow r e).2), (((G.fr (R := fun _ => False) hG).grown hg (fun g e => .inr (by have := (hrow g e).1; omega)))).toG (fun _ _ h => h), Nat.le_trans hs hg.size⟩

end Go.Proofs.YtnkmcoljijmgpaaGreat
set_option linter.unusedSimpArgs false
set_option linter.unusedVariables false
namespace Go.Proofs.YtnkmcoljijmgpaaGreat
open Go.RowKit Go.Shelf

section
variable {T : TypeId → Prop} {B : Nat} {X Y Z : World}
end
section
variable {l D B : Nat} {r r' : Loop} {X Y : World} {T : TypeId → Prop}
end

section
variable {F : Fence} {n : Nat} {P : Program}
end
end Go.Proofs.YtnkmcoljijmgpaaGreat
set_option linter.unusedSimpArgs false
set_option linter.unusedVariables false
namespace Go.Proofs.YtnkmcoljijmgpaaGreat
open Go.RowKit

end Go.Proofs.YtnkmcoljijmgpaaGreat
set_option linter.unusedSimpArgs false
set_option linter.unusedVariables false
namespace Go.Proofs.YtnkmcoljijmgpaaGreat
open Go.RowKit

end Go.Proofs.YtnkmcoljijmgpaaGreat
set_option linter.unusedSimpArgs false
set_option linter.unusedVariables false
namespace Go.Proofs.YtnkmcoljijmgpaaGreat
open Go.RowKit

end Go.Proofs.YtnkmcoljijmgpaaGreat
set_option linter.unusedSimpArgs false
set_option linter.unusedVariables false
namespace Go.Proofs.YtnkmcoljijmgpaaGreat
open Go.RowKit

end Go.Proofs.YtnkmcoljijmgpaaGreat

set_option linter.unusedSimpArgs false
set_option linter.unusedVariables false
namespace Go.Proofs.YtnkmcoljijmgpaaGreat
open Go.RowKit

section
variable (north cols lofts wrong loft kind xl xh yl yh ax ay dl dh : Int) (ea : Option Addr) (el ec : Nat) (s : Value) (w : World)
end

end Go.Proofs.YtnkmcoljijmgpaaGreat
set_option linter.unusedSimpArgs false
set_option linter.unusedVariables false
namespace Go.Proofs.YtnkmcoljijmgpaaGreat
open Go.RowKit
attribute [local go_sem] Oper.semAt_some

end Go.Proofs.YtnkmcoljijmgpaaGreat
set_option linter.unusedSimpArgs false
set_option linter.unusedVariables false
namespace Go.Proofs.YtnkmcoljijmgpaaGreat
open Go.RowKit
attribute [local go_sem] Oper.semAt_some

end Go.Proofs.YtnkmcoljijmgpaaGreat
set_option linter.unusedSimpArgs false
set_option linter.unusedVariables false
namespace Go.Proofs.YtnkmcoljijmgpaaGreat
open Go.RowKit
attribute [local go_sem] Oper.semAt_some
section
variable {gE gS : Nat} {w : World} (he : IntsAt w (some ⟨gE, 0, none⟩) exEast) (hs : SvsAt w (some ⟨gS, 0, none⟩) exSvs)
include he hs
end

end Go.Proofs.YtnkmcoljijmgpaaGreat
set_option linter.unusedSimpArgs false
set_option linter.unusedVariables false
namespace Go.Proofs.YtnkmcoljijmgpaaGreat
open Go.RowKit
attribute [local go_sem] Oper.semAt_some

section
variable (north cols lofts wrong px py qx qy : Int) (east : List Int) (svs : List Sv) (ea sa : Option Addr) (ec sc : Nat) (w : World)
variable (he : IntsAt w ea east) (hs : SvsAt w sa svs) (hl : east.length ≤ 9223372036854775807) (hl2 : svs.length ≤ 9223372036854775807)

end
end Go.Proofs.YtnkmcoljijmgpaaGreat
set_option linter.unusedSimpArgs false
set_option linter.unusedVariables false
namespace Go.Proofs.YtnkmcoljijmgpaaGreat
open Go.RowKit Go.ChangeShapes Go.WideShapes Go.ChangeAt
set_option maxRecDepth 100000

section
variable {H : Type} {enc : TypeId × Value → H} {w : World} {base : Nat} {sp : Nat → Bool} {held : Bool} {fuel : Nat}
end

theorem add_none (b off k : Nat) : (⟨b, off, none⟩ : Addr).add k = ⟨b, off + k, none⟩ := by
  unfold Addr.add
  split
  · rename_i h; simp [h]
  · rfl
theorem lt_of_cell {w : World} {b o : Nat} {v : Value} (h : w.cell? ⟨b, o, none⟩ = some v) : b < w.heap.size := by
  rcases Nat.lt_or_ge b w.heap.size with hlt | hge
  · exact hlt
  · simp [World.cell?, Array.getElem?_eq_none hge] at h

section
variable {H : Type} {enc : TypeId × Value → H} {w : World} {fuel : Nat}
end
end Go.Proofs.YtnkmcoljijmgpaaGreat
set_option linter.unusedSimpArgs false
set_option linter.unusedVariables false
namespace Go.Proofs.YtnkmcoljijmgpaaGreat
open Go.RowKit Go.ChangeShapes Go.WideShapes Go.ChangeAt
set_option maxRecDepth 100000

section
variable {H : Type} {enc : TypeId × Value → H} {w : World}
end
end Go.Proofs.YtnkmcoljijmgpaaGreat
set_option linter.unusedSimpArgs false
set_option linter.unusedVariables false
namespace Go.Proofs.YtnkmcoljijmgpaaGreat
open Go.RowKit Go.Shelf
attribute [local go_sem] Oper.semAt_some

end Go.Proofs.YtnkmcoljijmgpaaGreat
set_option linter.unusedSimpArgs false
set_option linter.unusedVariables false
namespace Go.Proofs.YtnkmcoljijmgpaaGreat
open Go.RowKit
attribute [local go_sem] Oper.semAt_some

section
variable (north wrong : Int) (cols lofts : Nat) (east : List Int) (svs : List Sv) (ea sa : Option Addr) (ec sc : Nat) (w : World)
end

section
variable (north cols lofts wrong : Int) (east : List Int) (svs : List Sv) (ea sa : Option Addr) (ec sc : Nat) (w : World) (he : IntsAt w ea east) (hs : SvsAt w sa svs) (hl : east.length ≤ 9223372036854775807) (hl2 : svs.length ≤ 9223372036854775807)
include he hs hl hl2
end
end Go.Proofs.YtnkmcoljijmgpaaGreat
set_option linter.unusedSimpArgs false
set_option linter.unusedVariables false
namespace Go.Proofs.YtnkmcoljijmgpaaGreat
open Go.RowKit Go.Shelf
attribute [local go_sem] Oper.semAt_some wide_fn wide_dep wideR_fn wideR_dep

end Go.Proofs.YtnkmcoljijmgpaaGreat
set_option linter.unusedSimpArgs false
set_option linter.unusedVariables false
namespace Go.Proofs.YtnkmcoljijmgpaaGreat
open Go.RowKit
attribute [local go_sem] Oper.semAt_some

section
variable (north wrong : Int) (cols lofts l a b : Nat) (east : List Int) (svs : List Sv) (ea sa : Option Addr) (ec sc : Nat) (w : World)
end
end Go.Proofs.YtnkmcoljijmgpaaGreat
set_option linter.unusedSimpArgs false
set_option linter.unusedVariables false
namespace Go.Proofs.YtnkmcoljijmgpaaGreat
open Go.RowKit

end Go.Proofs.YtnkmcoljijmgpaaGreat
set_option linter.unusedSimpArgs false
set_option linter.unusedVariables false
namespace Go.Proofs.YtnkmcoljijmgpaaGreat
open Go.RowKit
attribute [local go_sem] Oper.semAt_some

end Go.Proofs.YtnkmcoljijmgpaaGreat

set_option linter.unusedSimpArgs false
set_option linter.unusedVariables false
namespace Go.Proofs.YtnkmcoljijmgpaaGreat
open Go.RowKit
attribute [local go_sem] Oper.semAt_some

theorem max2 (a b : Int) (w : World) : (Builtin.max_ #[3, 3] 3 #[.int .i64 a, .int .i64 b]).run Tryz.prog w = .ok (.int .i64 (max a b)) w := by
  simp only [Builtin.max_, List.foldlM]
  simp [go_sem, Builtin.max2]
  split <;> omega
end Go.Proofs.YtnkmcoljijmgpaaGreat
set_option linter.unusedSimpArgs false
set_option linter.unusedVariables false
namespace Go.Proofs.YtnkmcoljijmgpaaGreat
open Go.RowKit
attribute [local go_sem] Oper.semAt_some

section
variable {P : Program} {w : World} {ops : Array Oper} {rest : List Oper} {o : Oper} {a : Act} {Q : Exit → Act → World → Prop}
end
end Go.Proofs.YtnkmcoljijmgpaaGreat
set_option linter.unusedSimpArgs false
set_option linter.unusedVariables false
namespace Go.Proofs.YtnkmcoljijmgpaaGreat
open Go.RowKit
attribute [local go_sem] Oper.semAt_some
end Go.Proofs.YtnkmcoljijmgpaaGreat
set_option linter.unusedSimpArgs false
set_option linter.unusedVariables false
namespace Go.Proofs.YtnkmcoljijmgpaaGreat
open Go.RowKit
attribute [local go_sem] Oper.semAt_some
end Go.Proofs.YtnkmcoljijmgpaaGreat

set_option linter.unusedSimpArgs false
set_option linter.unusedVariables false
namespace Go.Proofs.YtnkmcoljijmgpaaGreat
open Go.RowKit Go.Shelf Go.Sort Go.Maps
attribute [local go_sem] Oper.semAt_some
theorem GF.order {f : Fu} {W : World} (h : GF f W) (st : List Int) (sa : Option Addr) (sc : Nat) (hi : IntsAt W sa st) (hl : st.length ≤ 1000) : Calls Tryz.prog 58 #[.agg f.v, .slice sa st.length sc] W (OrderPost W (orderL f st)) :=
  order_any f st sa sc W h.row h.fn hi hl h.B.many h.uq h.srt
section
variable {α : Type} {v : α → Array Value} {k : Nat}
end
end Go.Proofs.YtnkmcoljijmgpaaGreat

set_option linter.unusedSimpArgs false
set_option linter.unusedVariables false
namespace Go.Proofs.YtnkmcoljijmgpaaGreat
open Go.RowKit Go.Shelf Go.Maps
attribute [local go_sem] Oper.semAt_some wide_fn wide_dep wideR_fn wideR_dep
def Tryz.sortI_ren : Go.Shelf.Ren := ⟨fun | 189 => 86 | 125 => 102 | 257 => 112 | 128 => 127 | 129 => 128 | 294 => 138 | 295 => 139 | 296 => 140 | 297 => 141 | 298 => 142 | 299 => 143 | 216 => 144 | 300 => 145 | 301 => 146 | 328 => 160 | 329 => 152 | 330 => 153 | 331 => 161 | 332 => 162 | 215 => 82 | 343 => 167 | n => n, fun | 28 => 24 | 3 => 3 | 46 => 72 | 0 => 0 | 51 => 156 | 53 => 158 | 4 => 4 | 183 => 149 | 182 => 148 | 131 => 153 | 5 => 5 | 9 => 9 | 218 => 172 | 222 => 176 | 228 => 182 | 229 => 183 | n => n, fun | n => n⟩
theorem Tryz.sortI : Go.Proofs.Lays.n189 Tryz.prog Tryz.sortI_ren := {
  mixed := by kernel_rfl,
  f125 := Tryz.func102.trans (congrArg some (by kernel_rfl)),
  f128 := Tryz.func127.trans (congrArg some (by kernel_rfl)),
  f129 := Tryz.func128.trans (congrArg some (by kernel_rfl)),
  f189 := Tryz.func86.trans (congrArg some (by kernel_rfl)),
  f215 := Tryz.func82.trans (congrArg some (by kernel_rfl)),
  f216 := Tryz.func144.trans (congrArg some (by kernel_rfl)),
  f257 := Tryz.func112.trans (congrArg some (by kernel_rfl)),
  f294 := Tryz.func138.trans (congrArg some (by kernel_rfl)),
  f295 := Tryz.func139.trans (congrArg some (by kernel_rfl)),
  f296 := Tryz.func140.trans (congrArg some (by kernel_rfl)),
  f297 := Tryz.func141.trans (congrArg some (by kernel_rfl)),
  f298 := Tryz.func142.trans (congrArg some (by kernel_rfl)),
  f299 := Tryz.func143.trans (congrArg some (by kernel_rfl)),
  f300 := Tryz.func145.trans (congrArg some (by kernel_rfl)),
  f301 := Tryz.func146.trans (congrArg some (by kernel_rfl)),
  f328 := Tryz.func160.trans (congrArg some (by kernel_rfl)),
  f329 := Tryz.func152.trans (congrArg some (by kernel_rfl)),
  f330 := Tryz.func153.trans (congrArg some (by kernel_rfl)),
  f331 := Tryz.func161.trans (congrArg some (by kernel_rfl)),
  f332 := Tryz.func162.trans (congrArg some (by kernel_rfl)),
  f343 := Tryz.func167.trans (congrArg some (by kernel_rfl)),
  t0 := Tryz.underlying0,
  a0 := Tryz.isAgg0,
  z0 := Tryz.sizeOf0,
  v0 := Tryz.zeroValue0,
  t3 := Tryz.underlying3,
  a3 := Tryz.isAgg3,
  z3 := Tryz.sizeOf3,
  v3 := Tryz.zeroValue3,
  t4 := Tryz.underlying4,
  a4 := Tryz.isAgg4,
  z4 := Tryz.sizeOf4,
  v4 := Tryz.zeroValue4,
  t5 := Tryz.underlying5,
  a5 := Tryz.isAgg5,
  z5 := Tryz.sizeOf5,
  v5 := Tryz.zeroValue5,
  t9 := Tryz.underlying9,
  a9 := Tryz.isAgg9,
  z9 := Tryz.sizeOf9,
  v9 := Tryz.zeroValue9,
  t28 := Tryz.underlying24,
  a28 := Tryz.isAgg24,
  z28 := Tryz.sizeOf24,
  v28 := Tryz.zeroValue24,
  t46 := Tryz.underlying72,
  a46 := Tryz.isAgg72,
  z46 := Tryz.sizeOf72,
  v46 := Tryz.zeroValue72,
  t51 := Tryz.underlying156,
  a51 := Tryz.isAgg156,
  z51 := Tryz.sizeOf156,
  v51 := Tryz.zeroValue156,
  t53 := Tryz.underlying158,
  a53 := Tryz.isAgg158,
  z53 := Tryz.sizeOf158,
  v53 := Tryz.zeroValue158,
  t131 := Tryz.underlying153,
  a131 := Tryz.isAgg153,
  z131 := Tryz.sizeOf153,
  v131 := Tryz.zeroValue153,
  t182 := Tryz.underlying148,
  a182 := Tryz.isAgg148,
  z182 := Tryz.sizeOf148,
  v182 := Tryz.zeroValue148,
  t183 := Tryz.underlying149,
  a183 := Tryz.isAgg149,
  z183 := Tryz.sizeOf149,
  v183 := Tryz.zeroValue149,
  t218 := Tryz.underlying172,
  a218 := Tryz.isAgg172,
  z218 := Tryz.sizeOf172,
  v218 := Tryz.zeroValue172,
  t222 := Tryz.underlying176,
  a222 := Tryz.isAgg176,
  z222 := Tryz.sizeOf176,
  v222 := Tryz.zeroValue176,
  t228 := Tryz.underlying182,
  a228 := Tryz.isAgg182,
  z228 := Tryz.sizeOf182,
  v228 := Tryz.zeroValue182,
  t229 := Tryz.underlying183,
  a229 := Tryz.isAgg183,
  z229 := Tryz.sizeOf183,
  v229 := Tryz.zeroValue183 }

def sortL (ls : List Int) : List Int := ls.mergeSort fun x y => decide (x ≤ y)
theorem sortL_len (ls : List Int) : (sortL ls).length = ls.length := List.length_mergeSort ls
theorem sortL_perm (ls : List Int) : (sortL ls).Perm ls := List.mergeSort_perm _ _
theorem sortL_pw (ls : List Int) : (sortL ls).Pairwise (· ≤ ·) := by
  have := List.pairwise_mergeSort (le := fun x y : Int => decide (x ≤ y)) (fun a b c h1 h2 => by simp at *; omega) (fun a b => by simp; omega) ls
  exact this.imp fun h => by simpa using h
open Go.Sort in
theorem sortI_own (ls : List Int) (hl : ls.length ≤ 1000) (W : World) (B : Nat) (v : Value) (h : W.ownsRow B 3 1 v ls.length (iv ls)) : Calls Tryz.prog 86 #[v] W fun e w' => e = .returned (.tuple #[]) ∧ w'.ownsRow B 3 1 v ls.length (iv (sortL ls)) ∧ W.grownBy w' v.ownBlock := by
  rcases h.2 with ⟨rfl, h0⟩ | ⟨gb, cap, cur, rfl, hbase, hgb, r1, r2, r3, r4⟩
  · have hl0 : ls = [] := List.length_eq_zero_iff.1 h0
    subst hl0
    refine (show Calls Tryz.prog 86 #[.slice none 0 0] W (fun e w' => e = .returned (.tuple #[]) ∧ w' = W) from Any.slices_Sort_int_none Tryz.sortI none 0 W).mono ?_
    rintro e w' ⟨rfl, rfl⟩
    exact ⟨rfl, by rw [show sortL [] = [] by simp [sortL]]; exact h, World.grownBy.refl _ _⟩
  · have hH : Holds encZ W gb 0 ls.toArray := holds_of_block_i hgb (by rw [Nat.mul_one] at r4; exact r4)
    have hS : Calls Tryz.prog 86 #[.slice (some ⟨gb, 0, none⟩) ls.length cap] W fun e w' => e = .returned (.tuple #[]) ∧ ∃ n os, w' = grow (putRow (Value.int .i64) (Sort.ahead W n) gb 0 (ls.mergeSort fun x y => decide (x ≤ y)).toArray) os := Any.slices_Sort_int Tryz.sortI gb 0 cap ls W hH (Array.getElem?_eq_some_iff.1 hgb).1 (by omega)
    refine hS.mono ?_
    rintro e w' ⟨rfl, nn, os, rfl⟩
    exact ⟨rfl, ownsRow_sorted_i (sortL_len ls) hbase hgb r1 r2 r3, grownBy_sorted_i _⟩
end Go.Proofs.YtnkmcoljijmgpaaGreat

set_option linter.unusedSimpArgs false
set_option linter.unusedVariables false
namespace Go.Proofs.YtnkmcoljijmgpaaGreat
open Go.RowKit Go.Shelf Go.Maps
attribute [local go_sem] Oper.semAt_some wide_fn wide_dep wideR_fn wideR_dep
section
variable {F : Fence} {n : Nat} {P : Program}
/-- a range over a function that goes through a map; the loop variable is a slot -/
theorem rangeFunc_varW {α : Type} {g : Operand} {tv : Tmp} {assign body : Code} {Q : Exit → Act → World → Prop} {a : Act} {w : World}
    (hro : F.round = none) (h1 : 1 ≤ n) {gf : Nat} {lb : Array Value} (hg : a.eval g = .func (.func gf) #[] lb) (hFg : F.fn gf) (eg : ∀ args w, (callFunc gf args).run P w = .ok (.enter gf args) w)
    {ev : α → Value} {S Sp : List α → Prop} {N : Nat} {w0 : World} (hseq : SeqStopsK F (n - 1) P gf lb (fun x => #[ev x]) KeepsWalks S Sp N w0)
    (hb0 : Below w0.heap.size w0 w)
    (I : List α → World → Prop) (Ix : Code → List α → World → Prop) (hI : OwnFrom w.heap.size I) (hIx : ∀ c, OwnFrom w.heap.size (Ix c)) (h0 : I [] w)
    (tb : Tmp)
    (hassign : ∀ (l : Nat) (x : α) (W : World) (K : Act → World → Prop), K { tmps := (a.tmps.setIfInBounds tv (ev x)).setIfInBounds tb (ev x), defers := [] } W →
      assign.wpIn (F.inRound l) (n - 1 - 1) P (Exit.then K (fun _ _ _ => False)) { tmps := a.tmps.setIfInBounds tv (ev x), defers := [] } W)
    (hbody : ∀ (l : Nat) (pre : List α) (x : α) (W : World), w.heap.size ≤ l → (∃ r, W.heap[l]? = some (.loop r)) → I pre W → pre.length < N →
      body.wpIn (F.inRound l) (n - 1 - 1) P (ownPostG w.heap.size KeepsWalks I Ix (pre ++ [x]) W) { tmps := (a.tmps.setIfInBounds tv (ev x)).setIfInBounds tb (ev x), defers := [] } W)
    (hdone : ∀ (D : Nat) (xs : List α) (W : World), w.heap.size ≤ D → S xs → I xs W → W.heap[D]? = some (.deferred (some [])) → Q .normal { a with defers := { target := .collected D, args := #[] } :: a.defers } W)
    (hstop : ∀ (D : Nat) (c : Code) (pre : List α) (W : World), w.heap.size ≤ D → Sp pre → Ix c pre W → W.heap[D]? = some (.deferred (some [])) → c.wpIn F n P Q { a with defers := { target := .collected D, args := #[] } :: a.defers } W) :
    (Code.rangeFunc g #[tv] assign body).wpIn F n P Q a w := by
  refine wpIn_rangeFunc_ownH hro h1 hg hFg eg hseq walksK_t walksK_b hb0 (fun _ => rfl) I Ix hI hIx h0
    (fun x a' _ => a' = { tmps := (a.tmps.setIfInBounds tv (ev x)).setIfInBounds tb (ev x), defers := [] })
    ?_ ?_ ?_ hdone hstop
  · rintro x a' _ X Y row h _ _
    exact h
  · intro l pre x W K hi hK
    have e : ((#[tv] : Array Tmp).zip #[ev x]).foldl (fun t (p, v) => t.setIfInBounds p v) a.tmps = a.tmps.setIfInBounds tv (ev x) := by simp
    rw [e]
    exact hassign l x W K (hK _ _ ((KeepsOthers.refl W).from _) (KeepsWalks.refl _) hi rfl)
  · rintro l pre x a' W hl hr hi rfl hN
    exact hbody l pre x W hl hr hi hN
end
/-- a map of numbers: a purse stands for a key (its owner) and a count (staked) -/
def ciD (x : Pu) : DataW Unit := .lit (.int .i64 x.staked)
def CnM (W : World) (m N : Nat) (ps : List Pu) : Prop := ∃ D : DataW Unit, W.ownsMap Tryz.prog 3 (plainElem Tryz.prog 3) m N D ∧ (∀ x : Int, has D (.int .i64 x) = ps.any fun p => p.owner == x) ∧ ∀ q, q ∈ ps → ∀ z, D.atKey (.int .i64 q.owner) z = ciD q
theorem CnM.made (W : World) : CnM (W.alloc (.map #[] 0)) W.heap.size 0 [] := ⟨_, World.ownsMap_made _ _ _ _, fun x => rfl, fun q h => by simp at h⟩
theorem CnM.keep {W W' : World} {m N : Nat} {ps : List Pu} (h : CnM W m N ps) (hG : G W W') : CnM W' m N ps := by
  obtain ⟨D, h1, h2⟩ := h
  refine ⟨D, ?_, h2⟩
  obtain ⟨es, clock, hb, F, hs, e⟩ := h1
  exact ⟨es, clock, (hG.block m (Array.getElem?_eq_some_iff.1 hb).1).trans hb, F, hs, e⟩
theorem CnM.fr {R : Nat → Prop} {W W' : World} {m N : Nat} {ps : List Pu} (h : CnM W m N ps) (hF : Fr R W W') (hn : ¬ R m) : CnM W' m N ps := by
  obtain ⟨D, h1, h2⟩ := h
  refine ⟨D, ?_, h2⟩
  obtain ⟨es, clock, hb, F, hs, e⟩ := h1
  exact ⟨es, clock, (hF.block m (Array.getElem?_eq_some_iff.1 hb).1 hn).trans hb, F, hs, e⟩
theorem CnM.grown {W W' : World} {m N : Nat} {ps : List Pu} {row : Option Nat} (h : CnM W m N ps) (hg : W.grownBy W' row) (hne : some m ≠ row) : CnM W' m N ps := by
  obtain ⟨D, h1, h2⟩ := h
  refine ⟨D, ?_, h2⟩
  obtain ⟨es, clock, hb, F, hs, e⟩ := h1
  exact ⟨es, clock, (hg.block m (Array.getElem?_eq_some_iff.1 hb).1 hne).trans hb, F, hs, e⟩
theorem CnM.isMap {W : World} {m N : Nat} {ps : List Pu} (h : CnM W m N ps) : ∃ es c, W.heap[m]? = some (.map es c) := by
  obtain ⟨D, h1, _⟩ := h
  obtain ⟨es, clock, hm, _⟩ := h1
  exact ⟨_, _, hm⟩
theorem CnM.store {W : World} {m N : Nat} {ps : List Pu} (h : CnM W m N ps) (q : Pu) (hx : -1000000000000 ≤ q.owner ∧ q.owner ≤ 1000000000000) (hc : -1000000000000 ≤ q.staked ∧ q.staked ≤ 1000000000000) (hn : N < maxLen) :
    ∃ W', (Instr.mapUpdate 90 (.map (some m)) (.int .i64 q.owner) (.int .i64 q.staked)).run Tryz.prog W = .ok () W' ∧ CnM W' m (N + 1) (putP ps q) ∧ W.grownBy W' (some m) := by
  obtain ⟨D, h1, h2, h3⟩ := h
  have hk := keyOf_int_mk (P := Tryz.prog) (k := 3) Tryz.underlying3 (wfI hx)
  obtain ⟨W', hrun, hown, hg⟩ := h1.update law3 Tryz.underlying90 hn hk (plainElem_int Tryz.underlying3 (wfI hc))
  have hkl : WideAt.IsKeyLit (.int .i64 q.owner) := law3.key hk
  have hinj : ∀ y : Int, y ≠ q.owner → (Lit.int .i64 y) ≠ .int .i64 q.owner := fun y hy e => hy (by injection e)
  refine ⟨W', hrun, ⟨_, hown, fun y => ?_, fun p hp z => ?_⟩, hg⟩
  · rw [putP_any]
    by_cases e : y = q.owner
    · subst e
      rw [has_put_same h1.isMap hkl]
      simp
    · rw [has_put_other (hinj y e), h2]
      simp [Ne.symm e]
  · rcases putP_mem hp with rfl | ⟨hp, hne⟩
    · exact atKey_put_same h1.isMap hkl _ _
    · rw [atKey_put_other (hinj _ hne)]
      exact h3 p hp z
theorem CnM.at {W : World} {m N : Nat} {ps : List Pu} (h : CnM W m N ps) {x : Int} (hx : -1000000000000 ≤ x ∧ x ≤ 1000000000000) (hz : (zeroValue 3).run Tryz.prog W = .ok (.int .i64 0) W) :
    (Instr.lookup 90 (.map (some m)) (.int .i64 x) false).run Tryz.prog W = .ok (.int .i64 (atP ps x).staked) W := by
  obtain ⟨D, h1, h2, h3⟩ := h
  have hk := keyOf_int_mk (P := Tryz.prog) (k := 3) Tryz.underlying3 (wfI hx)
  obtain ⟨c, hrun, hat, _⟩ := h1.lookup_int law3 Tryz.underlying90 Tryz.underlying3 hz hk
  have e : c = (atP ps x).staked := by
    unfold atP
    cases hf : ps.find? fun p => p.owner == x with
    | none =>
      have hno : has D (.int .i64 x) = false := by
        rw [h2]
        refine List.any_eq_false.2 fun q hq => ?_
        have := List.find?_eq_none.1 hf q hq
        simpa using this
      rw [atKey_of_not_has hno] at hat
      simp only [DataW.lit.injEq, Lit.int.injEq, true_and] at hat
      exact hat.symm
    | some q =>
      have h5 := h3 q (List.mem_of_find?_eq_some hf) (.lit (.int .i64 0))
      have h6 : q.owner = x := by simpa using List.find?_some hf
      rw [h6, hat] at h5
      unfold ciD at h5
      simp only [DataW.lit.injEq, Lit.int.injEq, true_and] at h5
      exact h5
  rw [← e]
  exact hrun
/-- a range over such a map under way -/
def CRng (W : World) (m r N : Nat) (ps qs : List Pu) (cnt : Nat) : Prop := ∃ (D : DataW Unit) (left : Lit → Bool), W.ranges Tryz.prog 3 (plainElem Tryz.prog 3) m r N D left cnt ∧ (∀ q, q ∈ ps → ∀ z, D.atKey (.int .i64 q.owner) z = ciD q) ∧ (∀ x : Int, left (.int .i64 x) = qs.any fun p => p.owner == x) ∧ ∀ q ∈ qs, q ∈ ps
theorem CRng.left_eq {W : World} {m r N : Nat} {ps qs : List Pu} {cnt : Nat} (h : CRng W m r N ps qs cnt) : W.rangeLeft m r = cnt := by
  obtain ⟨D, left, h1, _⟩ := h
  exact h1.left_eq
theorem CRng.kept {W W' : World} {m r N : Nat} {ps qs : List Pu} {cnt : Nat} (h : CRng W m r N ps qs cnt) (hk : KeepsWalks W W') : CRng W' m r N ps qs cnt := by
  obtain ⟨D, left, h1, h2⟩ := h
  exact ⟨D, left, h1.of_walks hk, h2⟩
theorem CRng.walk {W : World} {m r N : Nat} {ps qs : List Pu} {cnt : Nat} (h : CRng W m r N ps qs cnt) : ∃ o : Obj, W.heap[r]? = some o ∧ o.isWalk = true := by
  obtain ⟨D, left, ⟨es, clock, since, seen, c0, hb, F, hs, hD, hr, _⟩, _⟩ := h
  exact ⟨_, hr, rfl⟩
section
variable {F : Fence} {n : Nat} {ops : Array Oper} {rest : List Oper} {o : Oper} {a : Act} {Q : Exit → Act → World → Prop}
set_option maxRecDepth 100000 in
theorem wpListIn_range_cn (w : World) (hg : o.guard = none) (mo : Operand) (hop : o.op = Op.range 90 mo) {m N : Nat} {ps : List Pu} (hm : a.eval mo = .map (some m)) (hw : CnM w m N ps)
    (hK : ∀ w', CRng w' m w.heap.size N ps ps (w'.rangeLeft m w.heap.size) → w.grownBy w' none → w'.heap.size = w.heap.size + 1 → wpListIn F n Tryz.prog ops Q rest (a.put o.dst (.pointer (some ⟨w.heap.size, 0, none⟩))) w') :
    wpListIn F n Tryz.prog ops Q (o :: rest) a w := by
  obtain ⟨D, h1, h2, h3⟩ := hw
  refine wpListIn_range_own w hg mo 90 hop 3 3 law3 Tryz.underlying90 (plainElem Tryz.prog 3) m N D hm h1 (fun w' hr hgr hsz => hK w' ?_ hgr hsz)
  exact ⟨D, _, by rw [hr.left_eq]; exact hr, h3, h2, fun q h => h⟩
set_option maxRecDepth 100000 in
theorem wpListIn_next_cn (w : World) (hg : o.guard = none) (it : Operand) (hop : o.op = Op.next it false) {m r N : Nat} {ps qs : List Pu} {cnt : Nat} (hit : a.eval it = .pointer (some ⟨r, 0, none⟩)) (h : CRng w m r N ps qs cnt)
    (hDone : qs = [] → wpListIn F n Tryz.prog ops Q rest (a.put o.dst (.tuple #[.bool false])) w)
    (hMore : ∀ q : Pu, q ∈ qs → ∀ w' cnt', CRng w' m r N ps (qs.filter fun p => p.owner != q.owner) cnt' → cnt' < cnt → w.grownBy w' (some r) → w'.heap.size = w.heap.size → (Instr.entry (.pointer (some ⟨r, 0, none⟩))).run Tryz.prog w' = .ok (.tuple #[.int .i64 q.owner, .int .i64 q.staked]) w' → wpListIn F n Tryz.prog ops Q rest (a.put o.dst (.tuple #[.bool true, .int .i64 q.owner, .int .i64 q.staked])) w') :
    wpListIn F n Tryz.prog ops Q (o :: rest) a w := by
  obtain ⟨D, left, h1, h2, h3, h4⟩ := h
  refine wpListIn_next_ranges w hg it hop 3 law3 (plainElem Tryz.prog 3) (Value.int .i64) (Value.int .i64) (fun key kl hkey => by obtain ⟨x, rfl, _⟩ := Maps.keyOf_int_inv Tryz.underlying3 hkey; exact ⟨x, rfl⟩) (fun v y hv => by obtain ⟨c, rfl, _⟩ := plainElem_int_inv Tryz.underlying3 hv; exact ⟨c, rfl⟩) m r N D left cnt hit h1 (fun _ hl => hDone ?_) (fun x c kl y w' cnt' hkey hlx hR hat hr hlt hgr hsz hen => ?_)
  · rw [List.eq_nil_iff_forall_not_mem]
    intro q hq
    have e := h3 q.owner
    rw [hl] at e
    have e' := List.any_eq_false.1 e.symm q hq
    simp at e'
  · obtain ⟨x', hx', rfl, hwf⟩ := Maps.keyOf_int_inv Tryz.underlying3 hkey
    cases hx'
    rw [h3 x] at hlx
    obtain ⟨q, hq, hqx⟩ := List.any_eq_true.1 hlx
    have hqe : q.owner = x := by simpa using hqx
    obtain ⟨c', hc', hy'⟩ := plainElem_int_inv Tryz.underlying3 hR
    have hc := h2 q (h4 q hq) .nil
    rw [hqe, hat] at hc
    have hcq : c = q.staked := by
      injection hc' with _ e
      rw [hy'.1] at hc
      unfold ciD at hc
      simp only [DataW.lit.injEq, Lit.int.injEq, true_and] at hc
      rw [e, hc]
    subst hcq
    subst hqe
    refine hMore q hq w' cnt' ⟨D, _, hr, h2, fun y => ?_, fun p hp => h4 p (List.mem_filter.1 hp).1⟩ hlt hgr hsz hen
    simp only [h3]
    have hsk : (Lit.int .i64 y).sameKey (.int .i64 q.owner) = (y == q.owner) := by
      have := WideAt.sameKey_iff (a := .int .i64 y) (b := .int .i64 q.owner) (law3.key (keyOf_int_mk Tryz.underlying3 hwf))
      by_cases e : y = q.owner
      · subst e
        rw [this.2 rfl]
        simp
      · have h9 : ¬ (Lit.int .i64 y).sameKey (.int .i64 q.owner) = true := fun hh => e (by have := this.1 hh; injection this)
        rw [Bool.not_eq_true] at h9
        rw [h9]
        simp [e]
    rw [hsk, List.any_filter]
    by_cases e : y = q.owner
    · subst e
      simp
    · have hb : (y == q.owner) = false := by simpa using e
      rw [hb]
      simp only [Bool.not_false, Bool.and_true]
      congr 1
      funext p
      by_cases e2 : p.owner = y
      · subst e2
        simp [e]
      · simp [e2]
end
set_option maxRecDepth 100000 in
set_option maxHeartbeats 4000000 in
theorem keys_in (n : Nat) (hn : 1 ≤ n) (l Bm m N : Nat) (ps : List Pu) (hd : UniqP ps) (J Jx : List Pu → World → Prop)
    (W : World) (hJ : AbidesFrom W.heap.size J)
    (hY : ∀ pre x W1, J pre W1 → pre.length < ps.length → YieldAt Fence.wide (n - 1) Tryz.prog l #[.int .i64 x.owner] W1 fun e W' => (e = .returned (.bool true) ∧ J (pre ++ [x]) W' ∧ KeepsWalks W1 W') ∨ (e = .returned (.bool false) ∧ Jx (pre ++ [x]) W'))
    (hBm : Blk W Bm 90 #[.map (some m)]) (hm : CnM W m N ps) (h0 : J [] W) :
    CallsIn Fence.wide n Tryz.prog 87 #[.func (.yield l) #[] #[], .pointer (some ⟨Bm, 0, none⟩)] W fun e W' => (∃ v, e = .returned v) ∧ ((∃ xs : List Pu, xs.Perm ps ∧ J xs W') ∨ (∃ pre, True ∧ Jx pre W')) := by
  have m0 := hBm.cell 0
  have lB := hBm.lt
  refine callsIn_of_wp Tryz.func87 rfl trivial ?_ rfl
  simp only [Tryz.ntmps87, List.size_toArray, List.length_cons, List.length_nil, Nat.reduceAdd, Nat.reduceSub, Array.replicate_succ, Array.replicate_zero, List.push_toArray, List.append_toArray, List.nil_append, List.cons_append]
  gi_wp2_with (first | (gi_at_range; refine wpListIn_range_cn _ rfl _ rfl rfl hm ?_; intro w0 hrg0 hg0 hs0) | gi_in)
  go_frame
  have HY := Lib.hid hY
  clear hY hm m0 lB
  gi_loopw [3] (fun _ wr => ∃ (xs qs : List Pu) (cnt : Nat), CRng wr m W.heap.size N ps qs cnt ∧ Hid ((xs ++ qs).Perm ps) ∧ Hid (UniqP qs) ∧ Hid (J xs wr)) (fun _ wr => wr.rangeLeft m W.heap.size)
  case atStart => exact ⟨[], ps, _, hrg0, by show ([] ++ ps).Perm ps; exact List.Perm.refl _, hd, hJ _ _ _ none h0 hg0 (fun r e => by cases e)⟩
  case round =>
    clear hrg0
    obtain ⟨xs, qs, cnt, hrg, HP, HU, HJ⟩ := hrel
    obtain ⟨wo, rfl⟩ : ∃ wo, wo = wr := ⟨_, rfl⟩
    gi_wp2_with (first | (gi_at_next; refine wpListIn_next_cn _ rfl _ rfl rfl hrg ?_ ?_) | gi_in)
    · intro h0
      subst h0
      gi_wp2_with gi_in
      go_end0
      have := HP.out
      rw [List.append_nil] at this
      exact ⟨⟨_, rfl⟩, .inl ⟨xs, this, HJ.out⟩⟩
    · intro q hq w5 cnt5 hrg5 hlt5 hg5 hs5 hen
      have hj5 := hJ _ _ _ (some W.heap.size) HJ.out hg5 (fun r e => by cases e; exact ⟨Nat.le_refl _, hrg.walk⟩)
      have hfp := filter_permP HU.out hq
      have hlen : xs.length < ps.length := by
        have := HP.out.length_eq
        rw [List.length_append] at this
        have h2 : 0 < qs.length := List.length_pos_of_mem hq
        omega
      have HP2 : Hid ((xs ++ [q] ++ qs.filter fun p => p.owner != q.owner).Perm ps) := by
        refine List.Perm.trans ?_ HP.out
        rw [List.append_assoc]
        exact List.Perm.append_left _ hfp.symm
      have HU2 := Lib.hid (show UniqP (qs.filter fun p => p.owner != q.owner) from List.Pairwise.filter _ HU.out)
      obtain ⟨fn, tmps, assign, body, hy', hR⟩ := HY.out xs q _ hj5 hlen
      have hR2 := Lib.hid hR
      have hrg6 := hrg5
      clear hR hfp hj5 hq hs5 hg5
      obtain ⟨qs', hqs'⟩ : ∃ qs', qs' = qs.filter fun p => p.owner != q.owner := ⟨_, rfl⟩
      rw [← hqs'] at hrg6 HP2 HU2
      clear hqs' hrg5
      obtain ⟨qo, qst, qp⟩ := q
      dsimp only at *
      gi_wp2_with gi_in
      refine hR2.out.mono ?_
      rintro e W3 (⟨rfl, hJ3, hk3⟩ | ⟨rfl, hJx3⟩)
      · gi_wp2_with gi_in
        go_roundw
        case rel => exact ⟨_, qs', cnt5, hrg6.kept hk3, HP2.out, HU2.out, hJ3⟩
        case measure => rw [(hrg6.kept hk3).left_eq, hrg.left_eq]; exact hlt5
      · gi_wp2_with gi_in
        refine bodyPost_ret (results_none rfl _ _ _) rfl ?_
        exact ⟨⟨_, rfl⟩, .inr ⟨_, trivial, hJx3⟩⟩
theorem keys_stops (n : Nat) (hn : 1 ≤ n) (Bm m N : Nat) (ps : List Pu) (hd : UniqP ps) (w : World) (hBm : Blk w Bm 90 #[.map (some m)]) (hm : CnM w m N ps) :
    SeqStopsK Fence.wide n Tryz.prog 87 #[.pointer (some ⟨Bm, 0, none⟩)] (fun x : Pu => #[.int .i64 x.owner]) KeepsWalks (fun xs => xs.Perm ps) (fun _ => True) ps.length w :=
  fun l J Jx W hW hJ _ hY h0 => keys_in n hn l Bm m N ps hd J Jx W hJ hY (hBm.keep hW) (hm.keep hW) h0
theorem keys_any (m : Nat) (w : World) : Calls Tryz.prog 62 #[.map (some m)] w fun e w' => e = .returned (.func (.func 87) #[] #[.pointer (some ⟨w.heap.size, 0, none⟩)]) ∧ w' = w.alloc (.cells #[.map (some m)] 90) := by
  go_enter Tryz.func62, Tryz.ntmps62
  go_wp2
  go_ret
  exact ⟨rfl, rfl⟩
def KApInv (w : World) (pre : List Pu) (W : World) : Prop := ApInv w (pre.map Pu.owner) W
theorem kapInv_own (w : World) (B : Nat) (hB : w.heap.size + 1 ≤ B) : OwnFrom B (KApInv w) := fun pre X Y row h hg hrow => apInv_own w B hB (pre.map Pu.owner) X Y row h hg hrow
set_option maxRecDepth 100000 in
set_option maxHeartbeats 4000000 in
theorem kappend_in (n : Nat) (hn : 3 ≤ n) (Bm m N : Nat) (ps : List Pu) (hd : UniqP ps) (hlen : ps.length ≤ 1000) (w : World) (hBm : Blk w Bm 90 #[.map (some m)]) (hm : CnM w m N ps) :
    CallsIn Fence.wide n Tryz.prog 111 #[.slice none 0 0, .func (.func 87) #[] #[.pointer (some ⟨Bm, 0, none⟩)]] w fun e w' =>
      ∃ (v : Value) (l : List Pu), e = .returned v ∧ l.Perm ps ∧ w'.ownsRow w.heap.size 3 1 v l.length (iv (l.map Pu.owner)) ∧ G w w' := by
  refine callsIn_of_wp_marks Tryz.func111 rfl trivial ?_ rfl
  simp only [Tryz.ntmps111, List.size_toArray, List.length_cons, List.length_nil, Nat.reduceAdd, Nat.reduceSub, Array.replicate_succ, Array.replicate_zero, List.push_toArray, List.append_toArray, List.nil_append, List.cons_append]
  gi_wp2
  refine rangeFunc_varW (F := Fence.wide) (α := Pu) (gf := 87) (lb := #[.pointer (some ⟨Bm, 0, none⟩)]) rfl (by omega) rfl trivial (enters_of Tryz.func87 (by kernel_rfl) rfl)
    (ev := fun x => .int .i64 x.owner) (keys_stops (n - 1) (by omega) Bm m N ps hd (w.alloc (.cells #[.slice none 0 0] 24)) (hBm.alloc _) (hm.keep ((G.rf _).a _)))
    (Below.refl _ _) (KApInv w) (fun _ _ _ => False) (kapInv_own _ _ (by simp)) (fun _ _ _ _ _ h _ _ => h) ?h0 5 ?assign ?body ?done ?stop
  case h0 => exact ⟨_, Blk.new _ _ _, World.ownsRow_nil _ _ _ _, (G.rf _).a _, by simp⟩
  case assign =>
    intro l x W K hK
    gi_wp2
    exact hK
  case body =>
    rintro l pre x W hl hrec hpi hN
    obtain ⟨v, b1, hr, hG, hs⟩ := hpi
    have hln : (pre.map Pu.owner).length = pre.length := List.length_map ..
    rw [hln] at hr
    have hsn : iv ((pre ++ [x]).map Pu.owner) = (pre.map Pu.owner).map (Value.int .i64) ++ [.int .i64 x.owner] := by simp [iv]
    obtain ⟨i0, hi0, hz0, hz1, hz2⟩ := info_parts info3
    have c0 := b1.cell 0
    have lA := b1.lt
    have nA := own_ne hr b1 (by decide)
    gi_wp2_with (gi_at_builtin; refine wpListIn_append_own _ rfl _ _ 24 rfl (w.heap.size + 1) 3 i0 (.int .i64 0) 1 8 Tryz.underlying24 hi0 hz0 hz1 hz2 rfl (by decide) _ _ _ rfl (hr.alloc _) ⟨W.heap.size, 0, none⟩ 1 1 [.int .i64 x.owner] rfl rfl (cell_one_new _ _ _) (by simp [Value.oneCell']) (by unfold maxLen; omega) (by omega) (by simp; omega) ?_; intro v' w3 hown' hg3 hnil3; have b3 := (b1.alloc (.cells #[.int .i64 x.owner] 3)).grown hg3 nA; have c3 := b3.cell 0; have z3 := b3.frozen 0; obtain ⟨g', cap', rfl⟩ : ∃ g' cap', v' = .slice (some ⟨g', 0, none⟩) (pre.length + 1) cap' := (by
         rcases hown'.2 with ⟨_, h0⟩ | ⟨g', cap', _, h1, _⟩
         · exact absurd h0 (by omega)
         · exact ⟨g', cap', h1⟩); go_frame)
    have bE := b3.set_ 0 (.slice (some ⟨g', 0, none⟩) (pre.length + 1) cap')
    have hownE := hown'.kept (grownBy_set w3 ⟨w.heap.size, 0, none⟩ (.slice (some ⟨g', 0, none⟩) (pre.length + 1) cap')) (.inr (own_ne hown' b3 (by decide)).symm)
    have frE : Fr (fun i => i = w.heap.size ∨ v.ownBlock = some i) W (w3.setCell ⟨w.heap.size, 0, none⟩ (.slice (some ⟨g', 0, none⟩) (pre.length + 1) cap')) :=
      (((Fr.rf _ W).a _).grown hg3 (fun g e => .inl (.inr e))).s (.inl (.inl rfl)) _
    generalize w3.setCell ⟨w.heap.size, 0, none⟩ (.slice (some ⟨g', 0, none⟩) (pre.length + 1) cap') = wE at *
    have hB3 : ∀ i, v.ownBlock = some i → w.heap.size + 1 ≤ i := fun i h => own_base hr h
    have hcs : ∀ i, (i = w.heap.size ∨ v.ownBlock = some i) → i < W.heap.size → ∃ c t f, W.heap[i]? = some (.cells c t f) := by
      rintro i (rfl | h) _
      · exact ⟨_, _, _, b1⟩
      · exact own_cells hr h
    refine ⟨frE.keeps hcs _, ⟨frE.size, fun i o hi ho => ?_⟩, ?_⟩
    · refine (frE.block i (Array.getElem?_eq_some_iff.1 hi).1 (fun e => ?_)).trans hi
      obtain ⟨c, t, f, h5⟩ := hcs i e (Array.getElem?_eq_some_iff.1 hi).1
      rw [h5] at hi
      cases hi
      cases ho
    · have hlen2 : ((pre ++ [x]).map Pu.owner).length = pre.length + 1 := by simp
      refine (show ApInv w ((pre ++ [x]).map Pu.owner) wE from ⟨_, bE, by rw [hlen2, show (((pre ++ [x]).map Pu.owner).map (Value.int .i64)) = _ from hsn]; exact hownE, ((G.fr (R := fun _ => False) hG).t2 frE (fun i hi h => ?_)).toG (fun _ _ h => h), Nat.le_trans hs frE.size⟩)
      rcases h with h | h
      · omega
      · have := hB3 _ h; omega
  case done =>
    rintro D xs W hD hS hpi hDef
    obtain ⟨v, b1, hr, hG, hs⟩ := hpi
    have c0 := b1.cell 0
    gi_wp2
    refine ⟨by simp, .inl ⟨_, _, rfl, run_takeDeferred hDef, ?_⟩⟩
    refine ⟨_, results_tmp rfl _ _ _, _, xs, rfl, hS, ?_, ?_⟩
    · rw [show xs.length = (xs.map Pu.owner).length from (List.length_map ..).symm]
      exact own_weaken (ownsRow_kept' (row := some D) hr ⟨rfl, rfl, rfl, by simp [World.putObj], fun i _ hn => World.putObj_heap_other (fun e => hn (by rw [e]))⟩ (fun r e => by cases e; exact ⟨_, hDef, rfl⟩)) (by omega)
    · have hf : Fr (fun i => i = D) W (W.putObj D (.deferred none)) := ⟨rfl, rfl, rfl, by simp [World.putObj], fun i _ hn => World.putObj_heap_other hn⟩
      refine ((G.fr (R := fun _ => False) hG).t2 hf (fun i hi h => ?_)).toG (fun _ _ h => h)
      simp at hD
      omega
  case stop =>
    rintro D c pre W _ _ h _
    exact h.elim
theorem kcollect_any (Bm m N : Nat) (ps : List Pu) (hd : UniqP ps) (hlen : ps.length ≤ 1000) (w : World) (hBm : Blk w Bm 90 #[.map (some m)]) (hm : CnM w m N ps) :
    Calls Tryz.prog 85 #[.func (.func 87) #[] #[.pointer (some ⟨Bm, 0, none⟩)]] w fun e w' => ∃ (v : Value) (l : List Pu), e = .returned v ∧ l.Perm ps ∧ w'.ownsRow w.heap.size 3 1 v l.length (iv (l.map Pu.owner)) ∧ G w w' := by
  have HA := Lib.hid ((callsIn_wide (n := 3)).1 (kappend_in 3 (by omega) Bm m N ps hd hlen w hBm hm))
  go_enter Tryz.func85, Tryz.ntmps85
  go_wp2_with (go_at_call 111; refine HA.out.mono ?_; rintro e w1 ⟨v, l, rfl, hp, ho, hG⟩)
  go_ret
  exact ⟨v, l, rfl, hp, ho, hG⟩
theorem sortL_eq {l l' : List Int} (h : l.Perm l') : sortL l = sortL l' :=
  List.Perm.eq_of_pairwise (le := fun a b : Int => a ≤ b) (fun a b _ _ h1 h2 => by omega) (sortL_pw l) (sortL_pw l') (((sortL_perm l).trans h).trans (sortL_perm l').symm)
/-- slices.Sorted at the keys of a map -/
theorem ksorted_any (Bm m N : Nat) (ps : List Pu) (hd : UniqP ps) (hlen : ps.length ≤ 1000) (w : World) (hBm : Blk w Bm 90 #[.map (some m)]) (hm : CnM w m N ps) :
    Calls Tryz.prog 61 #[.func (.func 87) #[] #[.pointer (some ⟨Bm, 0, none⟩)]] w fun e w' => ∃ v, e = .returned v ∧ w'.ownsRow w.heap.size 3 1 v ps.length (iv (sortL (ps.map Pu.owner))) ∧ G w w' := by
  have HC := Lib.hid (kcollect_any Bm m N ps hd hlen w hBm hm)
  have HL := Lib.hid hlen
  clear hd hlen hm
  go_enter Tryz.func61, Tryz.ntmps61
  go_wp2_with (first | (go_at_call 85; refine HC.out.mono ?_; rintro e w1 ⟨v, l, rfl, hp, ho, hG⟩) | (go_at_call 86; refine (sortI_own (l.map Pu.owner) (by rw [List.length_map, hp.length_eq]; exact HL.out) _ _ _ (by rw [List.length_map]; exact ho)).mono ?_; rintro e w2 ⟨rfl, ho2, hg2⟩))
  go_ret
  refine ⟨v, rfl, ?_, grow_own hG ho (Nat.le_refl _) hg2⟩
  rw [List.length_map, hp.length_eq, sortL_eq (hp.map Pu.owner)] at ho2
  exact ho2
end Go.Proofs.YtnkmcoljijmgpaaGreat

set_option linter.unusedSimpArgs false
set_option linter.unusedVariables false
namespace Go.Proofs.YtnkmcoljijmgpaaGreat
open Go.RowKit Go.Shelf Go.Sort Go.Maps
attribute [local go_sem] Oper.semAt_some
theorem hasB_iff {l : List Rc} {b : Int} : hasB l b = true ↔ ∃ j, j < l.length ∧ (l.getD j default).bird = b := by
  unfold hasB anyU
  rw [List.any_eq_true]
  exact ⟨fun ⟨j, hj, e⟩ => ⟨j, List.mem_range.1 hj, by simpa using e⟩, fun ⟨j, hj, e⟩ => ⟨j, List.mem_range.2 hj, by simpa using e⟩⟩
theorem idxR_lt {l : List Rc} {b : Int} : (idxR l b < 0) ↔ hasB l b = false := by
  rcases first_or (p := fun j => (l.getD j default).bird = b) l.length with h | ⟨k, h1, h2, h3⟩
  · rw [idxR_none h]
    refine ⟨fun _ => ?_, fun _ => by decide⟩
    cases hh : hasB l b
    · rfl
    · obtain ⟨j, hj, e⟩ := hasB_iff.1 hh
      exact absurd e (h j hj)
  · rw [idxR_some h1 h2 h3, hasB_iff.2 ⟨k, h1, h2⟩]
    refine ⟨fun h => by omega, fun h => by cases h⟩
theorem takeD {α : Type} [Inhabited α] {l : List α} {k j : Nat} (hj : j < k) : (l.take k).getD j default = l.getD j default := by
  rw [List.getD_eq_getElem?_getD, List.getD_eq_getElem?_getD, List.getElem?_take_of_lt hj]
theorem idxR_self {l : List Rc} {k : Nat} (hk : k < l.length) : (idxR l (l.getD k default).bird = k) ↔ hasB (l.take k) (l.getD k default).bird = false := by
  rcases first_or (p := fun j => (l.getD j default).bird = (l.getD k default).bird) l.length with h | ⟨q, h1, h2, h3⟩
  · exact absurd rfl (h k hk)
  · have hqk : q ≤ k := by
      rcases Nat.lt_or_ge k q with h4 | h4
      · exact absurd rfl (h3 k h4)
      · exact h4
    rw [idxR_some h1 h2 h3]
    constructor
    · intro e
      have e2 : q = k := by omega
      subst e2
      cases hh : hasB (l.take q) (l.getD q default).bird
      · rfl
      · obtain ⟨j, hj, e⟩ := hasB_iff.1 hh
        rw [List.length_take] at hj
        rw [takeD (by omega)] at e
        exact absurd e (h3 j (by omega))
    · intro hh
      rcases Nat.lt_or_ge q k with h4 | h4
      · have : hasB (l.take k) (l.getD k default).bird = true := hasB_iff.2 ⟨q, by rw [List.length_take]; omega, by rw [takeD h4]; exact h2⟩
        rw [hh] at this
        cases this
      · omega
theorem race_no1 {r : Ra} (h : 12 < r.racers.length ∨ 6 < r.pools.length ∨ 4 < r.protests.length) : raceB r = false := by
  cases hr : raceB r
  · rfl
  · have h1 := (uniq_of (race_parts hr)).1
    have h2 := race_pools hr
    have h3 := race_np hr
    omega
theorem race_no2 {r : Ra} {k : Nat} (hk : k < r.racers.length) (h : racerB r.pools.length (r.racers.getD k default) = false ∨ ¬ idxR r.racers (r.racers.getD k default).bird = k) : raceB r = false := by
  cases hr : raceB r
  · rfl
  · have h1 := race_parts hr
    unfold racersB at h1
    simp only [Bool.and_eq_true] at h1
    have h2 := allU_iff.1 h1.2 k hk
    simp only [Bool.and_eq_true, Bool.not_eq_true'] at h2
    rcases h with h | h
    · rw [h] at h2; cases h2.2
    · exact absurd ((idxR_self hk).2 h2.1) h
theorem race_no3 {r : Ra} {k : Nat} (hk : k < r.pools.length) (h : poolB (r.pools.getD k default) = false) : raceB r = false := by
  cases hr : raceB r
  · rfl
  · unfold raceB at hr
    simp only [Bool.and_eq_true] at hr
    have h2 := allU_iff.1 hr.2.1 k hk
    rw [h] at h2
    cases h2
theorem race_no4 {r : Ra} {k : Nat} (hk : k < r.protests.length) (h : idxR r.racers (r.protests.getD k 0) < 0 ∨ (0 < k ∧ r.protests.getD k 0 ≤ r.protests.getD (k - 1) 0)) : raceB r = false := by
  cases hr : raceB r
  · rfl
  · unfold raceB at hr
    simp only [Bool.and_eq_true] at hr
    rcases h with h | h
    · have h2 := allU_iff.1 hr.2.2.2.2.2 k hk
      rw [idxR_lt.1 h] at h2
      cases h2
    · have h2 := allU_iff.1 hr.2.2.2.2.1 k hk
      simp only [Bool.or_eq_true, decide_eq_true_eq] at h2
      omega
theorem race_yes {r : Ra} (h1 : r.racers.length ≤ 12) (h2 : r.pools.length ≤ 6) (h3 : r.protests.length ≤ 4) (h4 : ∀ k, k < r.racers.length → racerB r.pools.length (r.racers.getD k default) = true ∧ idxR r.racers (r.racers.getD k default).bird = k) (h5 : ∀ k, k < r.pools.length → poolB (r.pools.getD k default) = true) (h6 : ∀ k, k < r.protests.length → ¬ idxR r.racers (r.protests.getD k 0) < 0 ∧ ¬ (0 < k ∧ r.protests.getD k 0 ≤ r.protests.getD (k - 1) 0)) : raceB r = true := by
  unfold raceB racersB
  rw [decide_eq_true h1, decide_eq_true h2, decide_eq_true h3, allU_iff.2 h5]
  have a : allU (fun i => !hasB (r.racers.take i) (r.racers.getD i default).bird && racerB r.pools.length (r.racers.getD i default)) r.racers.length = true := allU_iff.2 fun k hk => by
    obtain ⟨b, c⟩ := h4 k hk
    rw [b, (idxR_self hk).1 c]
    rfl
  have b : ascB r.protests = true := allU_iff.2 fun k hk => by
    have := (h6 k hk).2
    simp only [Bool.or_eq_true, decide_eq_true_eq]
    omega
  have c : allU (fun i => hasB r.racers (r.protests.getD i 0)) r.protests.length = true := allU_iff.2 fun k hk => by
    cases hh : hasB r.racers (r.protests.getD k 0)
    · exact absurd (idxR_lt.2 hh) (h6 k hk).1
    · rfl
  rw [a, b, c]
  rfl
set_option maxRecDepth 100000 in
set_option maxHeartbeats 8000000 in
theorem refCheck8_any (r : Ra) (w : World) (h : r.At w) : Calls Tryz.prog 14 #[.agg r.v] w fun e w' => e = .returned (.int .i64 (chk8 r)) ∧ G w w' := by
  have HF : Hid (∀ W', raceB r = false → G w W' → ((Ending.returned (.int .i64 80) = .returned (.int .i64 (chk8 r))) ∧ G w W')) := fun W' a b => ⟨by unfold chk8; rw [a]; rfl, b⟩
  have HT : Hid (∀ W', raceB r = true → G w W' → ((Ending.returned (.int .i64 0) = .returned (.int .i64 (chk8 r))) ∧ G w W')) := fun W' a b => ⟨by unfold chk8; rw [a]; rfl, b⟩
  have HN1 := Lib.hid (fun hh => race_no1 (r := r) hh)
  have HN2 := Lib.hid (fun k hk hh => race_no2 (r := r) (k := k) hk hh)
  have HN3 := Lib.hid (fun k hk hh => race_no3 (r := r) (k := k) hk hh)
  have HN4 := Lib.hid (fun k hk hh => race_no4 (r := r) (k := k) hk hh)
  have HY := Lib.hid (fun h1 h2 h3 h4 h5 h6 => race_yes (r := r) h1 h2 h3 h4 h5 h6)
  have HIR0 := Lib.hid (fun (k : Nat) (hk : k < r.racers.length) (W : World) (hW : G w W) => isRacer_any (r.racers.getD k default) r.pools.length W ((h.rs.below hW).pools k hk) (h.nq k hk) h.np)
  have HIX0 := Lib.hid (fun (b : Int) (W : World) (hW : G w W) => racer_idx r.racers r.ra r.rc (.slice r.pa r.pools.length r.pc) (.slice r.ta r.protests.length r.tc) b W (h.rs.below hW).row h.nr)
  have HIP0 := Lib.hid (fun (k : Nat) (hk : k < r.pools.length) (W : World) (hW : G w W) => isPool8_any (r.pools.getD k default) W ((h.ps.below hW).tables k hk) (h.nb k hk))
  have hpr := h.rs.row
  have hpp := h.ps.row
  have hpt := h.ts
  generalize chk8 r = CK at *
  generalize raceB r = RB at *
  clear h
  obtain ⟨ra, rc, racers, pa, pc, pools, ta, tc, protests⟩ := r
  unfold Ra.v
  dsimp only at *
  obtain ⟨IX, hIX⟩ : ∃ IX : Int → Int, IX = idxR racers := ⟨_, rfl⟩
  rw [← hIX] at HN2 HN4 HY HIX0
  clear hIX
  have g0 : G w (w.alloc (.cells #[.slice ra racers.length rc, .slice pa pools.length pc, .slice ta protests.length tc] 26)) := (G.rf _).a _
  have b0 : Blk (w.alloc (.cells #[.slice ra racers.length rc, .slice pa pools.length pc, .slice ta protests.length tc] 26)) w.heap.size 26 #[.slice ra racers.length rc, .slice pa pools.length pc, .slice ta protests.length tc] := Blk.new _ _ _
  have hr0 := hpr.below g0
  have hp0 := hpp.below g0
  have ht0 := hpt.below g0
  clear hpr hpp hpt
  go_enter Tryz.func14, Tryz.ntmps14
  go_upto_region 1 with fail
  change Code.wp _ _ _ _ (w.alloc (.cells #[.slice ra racers.length rc, .slice pa pools.length pc, .slice ta protests.length tc] 26))
  generalize w.alloc (.cells #[.slice ra racers.length rc, .slice pa pools.length pc, .slice ta protests.length tc] 26) = W1 at *
  have m0 := b0.cell 0
  have m1 := b0.cell 1
  have m2 := b0.cell 2
  have l0 := b0.lt
  by_cases h1 : 12 < racers.length
  · have h1i : (12 : Int) < racers.length := by omega
    have HZ := Lib.hid (HF.out W1 (HN1.out (.inl h1)) g0)
    go_wp2_with fail
    first | exact HZ.out | (go_ret; exact HZ.out)
  · have h1i : ¬ (12 : Int) < racers.length := by omega
    by_cases h2 : 6 < pools.length
    · have h2i : (6 : Int) < pools.length := by omega
      have HZ := Lib.hid (HF.out W1 (HN1.out (.inr (.inl h2))) g0)
      go_wp2_with fail
      first | exact HZ.out | (go_ret; exact HZ.out)
    · have h2i : ¬ (6 : Int) < pools.length := by omega
      by_cases h3 : 4 < protests.length
      · have h3i : (4 : Int) < protests.length := by omega
        have HZ := Lib.hid (HF.out W1 (HN1.out (.inr (.inr h3))) g0)
        go_wp2_with fail
        first | exact HZ.out | (go_ret; exact HZ.out)
      · have h3i : ¬ (4 : Int) < protests.length := by omega
        go_wp2_with fail
        clear m0 m1 m2 l0
        go_loopw [3] (fun i wr => ∃ k : Nat, k ≤ racers.length ∧ i = .int .i64 k ∧ Hid (∀ j, j < k → racerB pools.length (racers.getD j default) = true ∧ IX (racers.getD j default).bird = (j : Nat)) ∧ G W1 wr) (fun i _ => racers.length - (intOf i).toNat)
        case atStart => exact ⟨0, Nat.zero_le _, rfl, fun j hj => by omega, G.rf _⟩
        case round =>
          obtain ⟨k, hk, rfl, HN, hG⟩ := hrel
          obtain ⟨wo, rfl⟩ : ∃ wo, wo = wr := ⟨_, rfl⟩
          have bo := b0.keep hG
          have m0 := bo.cell 0
          have l0 := bo.lt
          by_cases hlt : k < racers.length
          · have hki : (k : Int) < racers.length := by omega
            have HIR1 := Lib.hid (fun W (hW : G wo W) => HIR0.out k hlt W (g0.t (hG.t hW)))
            have HBAD := Lib.hid (HN2.out k hlt)
            have HIX1 := Lib.hid (fun b W (hW : G wo W) => HIX0.out b W (g0.t (hG.t hW)))
            rcases hr0 with h | ⟨gr, ofr, rfl, hgr, hcell⟩
            · omega
            have hcl := fun W (hW : G wo W) r hr => ((bcellB (hG.t hW)).1 gr _ hgr).trans (hcell k hlt r hr)
            have hgl := fun W (hW : G wo W) => Nat.lt_of_lt_of_le hgr (hG.t hW).size
            obtain ⟨y, hy⟩ : ∃ y, y = racers.getD k default := ⟨_, rfl⟩
            have HYY := Lib.hid hy
            rw [← hy] at hcl HIR1 HBAD
            clear hy hcell
            obtain ⟨zbird, zowner, zrank, zday, zpa, zpc, zpools⟩ := y
            unfold Rc.v at hcl HIR1
            have hSk : ∀ W', G wo W' → Blk W' w.heap.size 26 #[.slice (some ⟨gr, ofr, none⟩) racers.length rc, .slice pa pools.length pc, .slice ta protests.length tc] ∧ W'.cell? ⟨gr, ofr + k * 5, none⟩ = some (.int .i64 zbird) ∧ W'.cell? ⟨gr, ofr + k * 5 + 1, none⟩ = some (.int .i64 zowner) ∧ W'.cell? ⟨gr, ofr + k * 5 + 2, none⟩ = some (.int .i64 zrank) ∧ W'.cell? ⟨gr, ofr + k * 5 + 3, none⟩ = some (.int .i64 zday) ∧ W'.cell? ⟨gr, ofr + k * 5 + 4, none⟩ = some (.slice zpa zpools.length zpc) ∧ gr < W'.heap.size := fun W' hW => ⟨bo.keep hW, hcl W' hW 0 (by omega), hcl W' hW 1 (by omega), hcl W' hW 2 (by omega), hcl W' hW 3 (by omega), hcl W' hW 4 (by omega), hgl W' hW⟩
            have HIR := HIR1
            have HIX := Lib.hid (HIX1.out zbird)
            clear hcl hgl HIR1 HIX1
            obtain ⟨RK, hRK⟩ : ∃ RK, RK = racerB pools.length ⟨zbird, zowner, zrank, zday, zpa, zpc, zpools⟩ := ⟨_, rfl⟩
            rw [← hRK] at HIR HBAD
            have HRK := Lib.hid hRK
            clear hRK
            cases RK
            · have HBADK := Lib.hid (HBAD.out (.inl rfl))
              clear HBAD
              go_upto_region 6 with fail
              refine wp_region_Y (S := fun W' => Blk W' w.heap.size 26 #[.slice (some ⟨gr, ofr, none⟩) racers.length rc, .slice pa pools.length pc, .slice ta protests.length tc] ∧ W'.cell? ⟨gr, ofr + k * 5, none⟩ = some (.int .i64 zbird) ∧ W'.cell? ⟨gr, ofr + k * 5 + 1, none⟩ = some (.int .i64 zowner) ∧ W'.cell? ⟨gr, ofr + k * 5 + 2, none⟩ = some (.int .i64 zrank) ∧ W'.cell? ⟨gr, ofr + k * 5 + 3, none⟩ = some (.int .i64 zday) ∧ W'.cell? ⟨gr, ofr + k * 5 + 4, none⟩ = some (.slice zpa zpools.length zpc) ∧ gr < W'.heap.size) 21 22 rfl (by kernel_rfl) (hSk _ (G.rf _).d) (fun hS => ?_)
              have ga := (G.rf wo).d
              change wpAnyY _ _ opsB6 _ _ 21 22 #[false, false, false, false, false, false, false, false, false, false, false, false, false, false, false, false, false, false, false, false, false, false] _ _
              refine wpAnyY_takeC (v := ?_) [10, 8, 4, 3, 1] rB6_0 rB6o_0 (fun _ _ _ h => h) (Or.inl ⟨by kernel_rfl, ?_⟩) hS ?_
              rotate_left
              · intro w' hSw; have l0 := hSw.1.lt; go_simp; with_reducible rfl
              try simp only [Act.put, List.getElem_toArray, List.getElem_cons_zero, List.getElem_cons_succ, List.setIfInBounds_toArray, List.set_cons_zero, List.set_cons_succ]
              refine wpAnyY_takeC (v := ?_) [10, 8, 4, 3] rB6_1 rB6o_1 (fun _ _ _ h => h) (Or.inl ⟨by kernel_rfl, ?_⟩) hS ?_
              rotate_left
              · intro w' hSw; have m0 := hSw.1.cell 0; have l0 := hSw.1.lt; go_simp; with_reducible rfl
              try simp only [Act.put, List.getElem_toArray, List.getElem_cons_zero, List.getElem_cons_succ, List.setIfInBounds_toArray, List.set_cons_zero, List.set_cons_succ]
              refine wpAnyY_takeC (v := ?_) [10, 8, 4, 3] rB6_2 rB6o_2 (fun _ _ _ h => h) (Or.inl ⟨by kernel_rfl, ?_⟩) hS ?_
              rotate_left
              · intro w' hSw; go_simp; with_reducible rfl
              try simp only [Act.put, List.getElem_toArray, List.getElem_cons_zero, List.getElem_cons_succ, List.setIfInBounds_toArray, List.set_cons_zero, List.set_cons_succ]
              refine wpAnyY_takeC (v := ?_) [10, 8, 4] rB6_3 rB6o_3 (fun _ _ _ h => h) (Or.inl ⟨by kernel_rfl, ?_⟩) hS ?_
              rotate_left
              · intro w' hSw; go_simp; with_reducible rfl
              try simp only [Act.put, List.getElem_toArray, List.getElem_cons_zero, List.getElem_cons_succ, List.setIfInBounds_toArray, List.set_cons_zero, List.set_cons_succ]
              refine wpAnyY_takeC (v := ?_) [10, 8] rB6_4 rB6o_4 (fun _ _ _ h => h) (Or.inl ⟨by kernel_rfl, ?_⟩) hS ?_
              rotate_left
              · intro w' hSw; obtain ⟨_, q0, q1, q2, q3, q4, lg⟩ := hSw; go_simp; with_reducible rfl
              try simp only [Act.put, List.getElem_toArray, List.getElem_cons_zero, List.getElem_cons_succ, List.setIfInBounds_toArray, List.set_cons_zero, List.set_cons_succ]
              refine wpAnyY_takeC (v := ?_) [10, 8, 7, 6] rB6_5 rB6o_5 (fun _ _ _ h => h) (Or.inl ⟨by kernel_rfl, ?_⟩) hS ?_
              rotate_left
              · intro w' hSw; have l0 := hSw.1.lt; go_simp; with_reducible rfl
              try simp only [Act.put, List.getElem_toArray, List.getElem_cons_zero, List.getElem_cons_succ, List.setIfInBounds_toArray, List.set_cons_zero, List.set_cons_succ]
              refine wpAnyY_takeC (v := ?_) [10, 8, 7] rB6_6 rB6o_6 (fun _ _ _ h => h) (Or.inl ⟨by kernel_rfl, ?_⟩) hS ?_
              rotate_left
              · intro w' hSw; have m1 := hSw.1.cell 1; have l0 := hSw.1.lt; go_simp; with_reducible rfl
              try simp only [Act.put, List.getElem_toArray, List.getElem_cons_zero, List.getElem_cons_succ, List.setIfInBounds_toArray, List.set_cons_zero, List.set_cons_succ]
              refine wpAnyY_takeC (v := ?_) [10, 8] rB6_7 rB6o_7 (fun _ _ _ h => h) (Or.inl ⟨by kernel_rfl, ?_⟩) hS ?_
              rotate_left
              · intro w' hSw; go_simp; with_reducible rfl
              try simp only [Act.put, List.getElem_toArray, List.getElem_cons_zero, List.getElem_cons_succ, List.setIfInBounds_toArray, List.set_cons_zero, List.set_cons_succ]
              refine wpAnyY_oneSWC rB6_8 rB6o_8 (by kernel_rfl) (fun K8 hK8 => ?_)
              go_simp
              refine (HIR.out _ ga).mono ?_
              rintro e w5 ⟨rfl, hG5⟩
              replace ga := ga.t hG5
              refine hK8.out _ _ (hSk _ ga) (fun hS => ?_)
              clear hK8
              try simp only [Act.put, List.getElem_toArray, List.getElem_cons_zero, List.getElem_cons_succ, List.setIfInBounds_toArray, List.set_cons_zero, List.set_cons_succ]
              refine wpAnyY_takeC (v := ?_) [10] rB6_9 rB6o_9 (fun _ _ _ h => h) (Or.inl ⟨by kernel_rfl, ?_⟩) hS ?_
              rotate_left
              · intro w' hSw; go_simp; with_reducible rfl
              try simp only [Act.put, List.getElem_toArray, List.getElem_cons_zero, List.getElem_cons_succ, List.setIfInBounds_toArray, List.set_cons_zero, List.set_cons_succ]
              refine wpAnyY_takeC (v := ?_) [] rB6_10 rB6o_10 (fun _ _ _ h => h) (Or.inl ⟨by kernel_rfl, ?_⟩) hS ?_
              rotate_left
              · intro w' hSw; go_simp; with_reducible rfl
              try simp only [Act.put, List.getElem_toArray, List.getElem_cons_zero, List.getElem_cons_succ, List.setIfInBounds_toArray, List.set_cons_zero, List.set_cons_succ]
              refine wpAnyY_takeC (v := undef) [20, 18] rB6_11 rB6o_11 (fun _ _ _ h => h) (Or.inr ⟨by kernel_rfl, rfl⟩) hS ?_
              try simp only [Act.put, List.getElem_toArray, List.getElem_cons_zero, List.getElem_cons_succ, List.setIfInBounds_toArray, List.set_cons_zero, List.set_cons_succ]
              refine wpAnyY_takeC (v := undef) [20, 18, 17, 16, 15, 13] rB6_12 rB6o_12 (fun _ _ _ h => h) (Or.inr ⟨by kernel_rfl, rfl⟩) hS ?_
              try simp only [Act.put, List.getElem_toArray, List.getElem_cons_zero, List.getElem_cons_succ, List.setIfInBounds_toArray, List.set_cons_zero, List.set_cons_succ]
              refine wpAnyY_takeC (v := undef) [20, 18, 17, 16, 15] rB6_13 rB6o_13 (fun _ _ _ h => h) (Or.inr ⟨by kernel_rfl, rfl⟩) hS ?_
              try simp only [Act.put, List.getElem_toArray, List.getElem_cons_zero, List.getElem_cons_succ, List.setIfInBounds_toArray, List.set_cons_zero, List.set_cons_succ]
              refine wpAnyY_takeC (v := undef) [20, 18, 17, 16, 15] rB6_14 rB6o_14 (fun _ _ _ h => h) (Or.inr ⟨by kernel_rfl, rfl⟩) hS ?_
              try simp only [Act.put, List.getElem_toArray, List.getElem_cons_zero, List.getElem_cons_succ, List.setIfInBounds_toArray, List.set_cons_zero, List.set_cons_succ]
              refine wpAnyY_takeC (v := undef) [20, 18, 17, 16] rB6_15 rB6o_15 (fun _ _ _ h => h) (Or.inr ⟨by kernel_rfl, rfl⟩) hS ?_
              try simp only [Act.put, List.getElem_toArray, List.getElem_cons_zero, List.getElem_cons_succ, List.setIfInBounds_toArray, List.set_cons_zero, List.set_cons_succ]
              refine wpAnyY_takeC (v := undef) [20, 18, 17] rB6_16 rB6o_16 (fun _ _ _ h => h) (Or.inr ⟨by kernel_rfl, rfl⟩) hS ?_
              try simp only [Act.put, List.getElem_toArray, List.getElem_cons_zero, List.getElem_cons_succ, List.setIfInBounds_toArray, List.set_cons_zero, List.set_cons_succ]
              refine wpAnyY_takeC (v := undef) [20, 18] rB6_17 rB6o_17 (fun _ _ _ h => h) (Or.inr ⟨by kernel_rfl, rfl⟩) hS ?_
              try simp only [Act.put, List.getElem_toArray, List.getElem_cons_zero, List.getElem_cons_succ, List.setIfInBounds_toArray, List.set_cons_zero, List.set_cons_succ]
              refine wpAnyY_takeC (v := undef) [20] rB6_19 rB6o_19 (fun _ _ _ h => h) (Or.inr ⟨by kernel_rfl, rfl⟩) hS ?_
              try simp only [Act.put, List.getElem_toArray, List.getElem_cons_zero, List.getElem_cons_succ, List.setIfInBounds_toArray, List.set_cons_zero, List.set_cons_succ]
              refine wpAnyY_oneSUC rB6_18 rB6o_18 (by kernel_rfl) hS ?_
              try simp only [Act.put, List.getElem_toArray, List.getElem_cons_zero, List.getElem_cons_succ, List.setIfInBounds_toArray, List.set_cons_zero, List.set_cons_succ]
              refine wpAnyY_takeC (v := undef) [] rB6_20 rB6o_20 (fun _ _ _ h => h) (Or.inr ⟨by kernel_rfl, rfl⟩) hS ?_
              try simp only [Act.put, List.getElem_toArray, List.getElem_cons_zero, List.getElem_cons_succ, List.setIfInBounds_toArray, List.set_cons_zero, List.set_cons_succ]
              refine wpAnyY_oneW (i := 21) (by kernel_rfl) rB6o_21 (by kernel_rfl) (by kernel_rfl) (fun K21 hK21 => ?_)
              go_simp
              refine hK21.out _ _ ?_
              clear hK21
              try simp only [Act.put, List.getElem_toArray, List.getElem_cons_zero, List.getElem_cons_succ, List.setIfInBounds_toArray, List.set_cons_zero, List.set_cons_succ]
              refine wpAnyY_done (by kernel_rfl) ?_ _
              clear hS hSk
              have hGz := hG.t ga
              have HZ := Lib.hid (HF.out _ HBADK.out (g0.t hGz))
              go_wp2_with fail
              first | exact HZ.out | (go_ret; exact HZ.out)
            · obtain ⟨z, hz⟩ : ∃ z, z = IX zbird := ⟨_, rfl⟩
              have HZZ := Lib.hid hz
              rw [← hz] at HIX
              by_cases hzk : z = k
              · have hzb : (z != (k : Int)) = false := by simpa using hzk
                clear HBAD hz
                have HZK := Lib.hid hzk
                clear hzk
                go_upto_region 6 with fail
                refine wp_region_Y (S := fun W' => Blk W' w.heap.size 26 #[.slice (some ⟨gr, ofr, none⟩) racers.length rc, .slice pa pools.length pc, .slice ta protests.length tc] ∧ W'.cell? ⟨gr, ofr + k * 5, none⟩ = some (.int .i64 zbird) ∧ W'.cell? ⟨gr, ofr + k * 5 + 1, none⟩ = some (.int .i64 zowner) ∧ W'.cell? ⟨gr, ofr + k * 5 + 2, none⟩ = some (.int .i64 zrank) ∧ W'.cell? ⟨gr, ofr + k * 5 + 3, none⟩ = some (.int .i64 zday) ∧ W'.cell? ⟨gr, ofr + k * 5 + 4, none⟩ = some (.slice zpa zpools.length zpc) ∧ gr < W'.heap.size) 21 22 rfl (by kernel_rfl) (hSk _ (G.rf _).d) (fun hS => ?_)
                have ga := (G.rf wo).d
                change wpAnyY _ _ opsB6 _ _ 21 22 #[false, false, false, false, false, false, false, false, false, false, false, false, false, false, false, false, false, false, false, false, false, false] _ _
                refine wpAnyY_takeC (v := ?_) [10, 8, 4, 3, 1] rB6_0 rB6o_0 (fun _ _ _ h => h) (Or.inl ⟨by kernel_rfl, ?_⟩) hS ?_
                rotate_left
                · intro w' hSw; have l0 := hSw.1.lt; go_simp; with_reducible rfl
                try simp only [Act.put, List.getElem_toArray, List.getElem_cons_zero, List.getElem_cons_succ, List.setIfInBounds_toArray, List.set_cons_zero, List.set_cons_succ]
                refine wpAnyY_takeC (v := ?_) [10, 8, 4, 3] rB6_1 rB6o_1 (fun _ _ _ h => h) (Or.inl ⟨by kernel_rfl, ?_⟩) hS ?_
                rotate_left
                · intro w' hSw; have m0 := hSw.1.cell 0; have l0 := hSw.1.lt; go_simp; with_reducible rfl
                try simp only [Act.put, List.getElem_toArray, List.getElem_cons_zero, List.getElem_cons_succ, List.setIfInBounds_toArray, List.set_cons_zero, List.set_cons_succ]
                refine wpAnyY_takeC (v := ?_) [10, 8, 4, 3] rB6_2 rB6o_2 (fun _ _ _ h => h) (Or.inl ⟨by kernel_rfl, ?_⟩) hS ?_
                rotate_left
                · intro w' hSw; go_simp; with_reducible rfl
                try simp only [Act.put, List.getElem_toArray, List.getElem_cons_zero, List.getElem_cons_succ, List.setIfInBounds_toArray, List.set_cons_zero, List.set_cons_succ]
                refine wpAnyY_takeC (v := ?_) [10, 8, 4] rB6_3 rB6o_3 (fun _ _ _ h => h) (Or.inl ⟨by kernel_rfl, ?_⟩) hS ?_
                rotate_left
                · intro w' hSw; go_simp; with_reducible rfl
                try simp only [Act.put, List.getElem_toArray, List.getElem_cons_zero, List.getElem_cons_succ, List.setIfInBounds_toArray, List.set_cons_zero, List.set_cons_succ]
                refine wpAnyY_takeC (v := ?_) [10, 8] rB6_4 rB6o_4 (fun _ _ _ h => h) (Or.inl ⟨by kernel_rfl, ?_⟩) hS ?_
                rotate_left
                · intro w' hSw; obtain ⟨_, q0, q1, q2, q3, q4, lg⟩ := hSw; go_simp; with_reducible rfl
                try simp only [Act.put, List.getElem_toArray, List.getElem_cons_zero, List.getElem_cons_succ, List.setIfInBounds_toArray, List.set_cons_zero, List.set_cons_succ]
                refine wpAnyY_takeC (v := ?_) [10, 8, 7, 6] rB6_5 rB6o_5 (fun _ _ _ h => h) (Or.inl ⟨by kernel_rfl, ?_⟩) hS ?_
                rotate_left
                · intro w' hSw; have l0 := hSw.1.lt; go_simp; with_reducible rfl
                try simp only [Act.put, List.getElem_toArray, List.getElem_cons_zero, List.getElem_cons_succ, List.setIfInBounds_toArray, List.set_cons_zero, List.set_cons_succ]
                refine wpAnyY_takeC (v := ?_) [10, 8, 7] rB6_6 rB6o_6 (fun _ _ _ h => h) (Or.inl ⟨by kernel_rfl, ?_⟩) hS ?_
                rotate_left
                · intro w' hSw; have m1 := hSw.1.cell 1; have l0 := hSw.1.lt; go_simp; with_reducible rfl
                try simp only [Act.put, List.getElem_toArray, List.getElem_cons_zero, List.getElem_cons_succ, List.setIfInBounds_toArray, List.set_cons_zero, List.set_cons_succ]
                refine wpAnyY_takeC (v := ?_) [10, 8] rB6_7 rB6o_7 (fun _ _ _ h => h) (Or.inl ⟨by kernel_rfl, ?_⟩) hS ?_
                rotate_left
                · intro w' hSw; go_simp; with_reducible rfl
                try simp only [Act.put, List.getElem_toArray, List.getElem_cons_zero, List.getElem_cons_succ, List.setIfInBounds_toArray, List.set_cons_zero, List.set_cons_succ]
                refine wpAnyY_oneSWC rB6_8 rB6o_8 (by kernel_rfl) (fun K8 hK8 => ?_)
                go_simp
                refine (HIR.out _ ga).mono ?_
                rintro e w5 ⟨rfl, hG5⟩
                replace ga := ga.t hG5
                refine hK8.out _ _ (hSk _ ga) (fun hS => ?_)
                clear hK8
                try simp only [Act.put, List.getElem_toArray, List.getElem_cons_zero, List.getElem_cons_succ, List.setIfInBounds_toArray, List.set_cons_zero, List.set_cons_succ]
                refine wpAnyY_takeC (v := ?_) [10] rB6_9 rB6o_9 (fun _ _ _ h => h) (Or.inl ⟨by kernel_rfl, ?_⟩) hS ?_
                rotate_left
                · intro w' hSw; go_simp; with_reducible rfl
                try simp only [Act.put, List.getElem_toArray, List.getElem_cons_zero, List.getElem_cons_succ, List.setIfInBounds_toArray, List.set_cons_zero, List.set_cons_succ]
                refine wpAnyY_takeC (v := ?_) [] rB6_10 rB6o_10 (fun _ _ _ h => h) (Or.inl ⟨by kernel_rfl, ?_⟩) hS ?_
                rotate_left
                · intro w' hSw; go_simp; with_reducible rfl
                try simp only [Act.put, List.getElem_toArray, List.getElem_cons_zero, List.getElem_cons_succ, List.setIfInBounds_toArray, List.set_cons_zero, List.set_cons_succ]
                refine wpAnyY_takeC (v := ?_) [20, 18] rB6_11 rB6o_11 (fun _ _ _ h => h) (Or.inl ⟨by kernel_rfl, ?_⟩) hS ?_
                rotate_left
                · intro w' hSw; have m0 := hSw.1.cell 0; have m1 := hSw.1.cell 1; have m2 := hSw.1.cell 2; have l0 := hSw.1.lt; go_simp; with_reducible rfl
                try simp only [Act.put, List.getElem_toArray, List.getElem_cons_zero, List.getElem_cons_succ, List.setIfInBounds_toArray, List.set_cons_zero, List.set_cons_succ]
                refine wpAnyY_takeC (v := ?_) [20, 18, 17, 16, 15, 13] rB6_12 rB6o_12 (fun _ _ _ h => h) (Or.inl ⟨by kernel_rfl, ?_⟩) hS ?_
                rotate_left
                · intro w' hSw; have l0 := hSw.1.lt; go_simp; with_reducible rfl
                try simp only [Act.put, List.getElem_toArray, List.getElem_cons_zero, List.getElem_cons_succ, List.setIfInBounds_toArray, List.set_cons_zero, List.set_cons_succ]
                refine wpAnyY_takeC (v := ?_) [20, 18, 17, 16, 15] rB6_13 rB6o_13 (fun _ _ _ h => h) (Or.inl ⟨by kernel_rfl, ?_⟩) hS ?_
                rotate_left
                · intro w' hSw; have m0 := hSw.1.cell 0; have l0 := hSw.1.lt; go_simp; with_reducible rfl
                try simp only [Act.put, List.getElem_toArray, List.getElem_cons_zero, List.getElem_cons_succ, List.setIfInBounds_toArray, List.set_cons_zero, List.set_cons_succ]
                refine wpAnyY_takeC (v := ?_) [20, 18, 17, 16, 15] rB6_14 rB6o_14 (fun _ _ _ h => h) (Or.inl ⟨by kernel_rfl, ?_⟩) hS ?_
                rotate_left
                · intro w' hSw; go_simp; with_reducible rfl
                try simp only [Act.put, List.getElem_toArray, List.getElem_cons_zero, List.getElem_cons_succ, List.setIfInBounds_toArray, List.set_cons_zero, List.set_cons_succ]
                refine wpAnyY_takeC (v := ?_) [20, 18, 17, 16] rB6_15 rB6o_15 (fun _ _ _ h => h) (Or.inl ⟨by kernel_rfl, ?_⟩) hS ?_
                rotate_left
                · intro w' hSw; go_simp; with_reducible rfl
                try simp only [Act.put, List.getElem_toArray, List.getElem_cons_zero, List.getElem_cons_succ, List.setIfInBounds_toArray, List.set_cons_zero, List.set_cons_succ]
                refine wpAnyY_takeC (v := ?_) [20, 18, 17] rB6_16 rB6o_16 (fun _ _ _ h => h) (Or.inl ⟨by kernel_rfl, ?_⟩) hS ?_
                rotate_left
                · intro w' hSw; go_simp; with_reducible rfl
                try simp only [Act.put, List.getElem_toArray, List.getElem_cons_zero, List.getElem_cons_succ, List.setIfInBounds_toArray, List.set_cons_zero, List.set_cons_succ]
                refine wpAnyY_takeC (v := ?_) [20, 18] rB6_17 rB6o_17 (fun _ _ _ h => h) (Or.inl ⟨by kernel_rfl, ?_⟩) hS ?_
                rotate_left
                · intro w' hSw; obtain ⟨_, q0, q1, q2, q3, q4, lg⟩ := hSw; go_simp; with_reducible rfl
                try simp only [Act.put, List.getElem_toArray, List.getElem_cons_zero, List.getElem_cons_succ, List.setIfInBounds_toArray, List.set_cons_zero, List.set_cons_succ]
                refine wpAnyY_takeC (v := ?_) [20] rB6_19 rB6o_19 (fun _ _ _ h => h) (Or.inl ⟨by kernel_rfl, ?_⟩) hS ?_
                rotate_left
                · intro w' hSw; go_simp; with_reducible rfl
                try simp only [Act.put, List.getElem_toArray, List.getElem_cons_zero, List.getElem_cons_succ, List.setIfInBounds_toArray, List.set_cons_zero, List.set_cons_succ]
                refine wpAnyY_oneSWC rB6_18 rB6o_18 (by kernel_rfl) (fun K18 hK18 => ?_)
                go_simp
                refine (HIX.out _ ga).mono ?_
                rintro e w6 ⟨rfl, hG6⟩
                replace ga := ga.t hG6
                refine hK18.out _ _ (hSk _ ga) (fun hS => ?_)
                clear hK18
                try simp only [Act.put, List.getElem_toArray, List.getElem_cons_zero, List.getElem_cons_succ, List.setIfInBounds_toArray, List.set_cons_zero, List.set_cons_succ]
                refine wpAnyY_takeC (v := ?_) [] rB6_20 rB6o_20 (fun _ _ _ h => h) (Or.inl ⟨by kernel_rfl, ?_⟩) hS ?_
                rotate_left
                · intro w' hSw; go_simp; with_reducible rfl
                try simp only [Act.put, List.getElem_toArray, List.getElem_cons_zero, List.getElem_cons_succ, List.setIfInBounds_toArray, List.set_cons_zero, List.set_cons_succ]
                refine wpAnyY_oneW (i := 21) (by kernel_rfl) rB6o_21 (by kernel_rfl) (by kernel_rfl) (fun K21 hK21 => ?_)
                go_simp
                refine hK21.out _ _ ?_
                clear hK21
                try simp only [Act.put, List.getElem_toArray, List.getElem_cons_zero, List.getElem_cons_succ, List.setIfInBounds_toArray, List.set_cons_zero, List.set_cons_succ]
                refine wpAnyY_done (by kernel_rfl) ?_ _
                clear hS hSk
                have hGz := hG.t ga
                go_wp2_with fail
                go_roundw
                case rel => exact ⟨k + 1, by omega, by go_num, fun j hj => by
                  rcases Nat.lt_or_ge j k with h4 | h4
                  · exact HN.out j h4
                  · obtain rfl : j = k := by omega
                    rw [← HYY.out]
                    exact ⟨HRK.out.symm, HZZ.out.symm.trans HZK.out⟩, hGz⟩
                case measure => simp [intOf] <;> omega
              · have hzb : (z != (k : Int)) = true := by simpa using hzk
                have HBADK := Lib.hid (HBAD.out (.inr (by show ¬ IX zbird = _; rw [← hz]; exact hzk)))
                clear HBAD hz hzk
                go_upto_region 6 with fail
                refine wp_region_Y (S := fun W' => Blk W' w.heap.size 26 #[.slice (some ⟨gr, ofr, none⟩) racers.length rc, .slice pa pools.length pc, .slice ta protests.length tc] ∧ W'.cell? ⟨gr, ofr + k * 5, none⟩ = some (.int .i64 zbird) ∧ W'.cell? ⟨gr, ofr + k * 5 + 1, none⟩ = some (.int .i64 zowner) ∧ W'.cell? ⟨gr, ofr + k * 5 + 2, none⟩ = some (.int .i64 zrank) ∧ W'.cell? ⟨gr, ofr + k * 5 + 3, none⟩ = some (.int .i64 zday) ∧ W'.cell? ⟨gr, ofr + k * 5 + 4, none⟩ = some (.slice zpa zpools.length zpc) ∧ gr < W'.heap.size) 21 22 rfl (by kernel_rfl) (hSk _ (G.rf _).d) (fun hS => ?_)
                have ga := (G.rf wo).d
                change wpAnyY _ _ opsB6 _ _ 21 22 #[false, false, false, false, false, false, false, false, false, false, false, false, false, false, false, false, false, false, false, false, false, false] _ _
                refine wpAnyY_takeC (v := ?_) [10, 8, 4, 3, 1] rB6_0 rB6o_0 (fun _ _ _ h => h) (Or.inl ⟨by kernel_rfl, ?_⟩) hS ?_
                rotate_left
                · intro w' hSw; have l0 := hSw.1.lt; go_simp; with_reducible rfl
                try simp only [Act.put, List.getElem_toArray, List.getElem_cons_zero, List.getElem_cons_succ, List.setIfInBounds_toArray, List.set_cons_zero, List.set_cons_succ]
                refine wpAnyY_takeC (v := ?_) [10, 8, 4, 3] rB6_1 rB6o_1 (fun _ _ _ h => h) (Or.inl ⟨by kernel_rfl, ?_⟩) hS ?_
                rotate_left
                · intro w' hSw; have m0 := hSw.1.cell 0; have l0 := hSw.1.lt; go_simp; with_reducible rfl
                try simp only [Act.put, List.getElem_toArray, List.getElem_cons_zero, List.getElem_cons_succ, List.setIfInBounds_toArray, List.set_cons_zero, List.set_cons_succ]
                refine wpAnyY_takeC (v := ?_) [10, 8, 4, 3] rB6_2 rB6o_2 (fun _ _ _ h => h) (Or.inl ⟨by kernel_rfl, ?_⟩) hS ?_
                rotate_left
                · intro w' hSw; go_simp; with_reducible rfl
                try simp only [Act.put, List.getElem_toArray, List.getElem_cons_zero, List.getElem_cons_succ, List.setIfInBounds_toArray, List.set_cons_zero, List.set_cons_succ]
                refine wpAnyY_takeC (v := ?_) [10, 8, 4] rB6_3 rB6o_3 (fun _ _ _ h => h) (Or.inl ⟨by kernel_rfl, ?_⟩) hS ?_
                rotate_left
                · intro w' hSw; go_simp; with_reducible rfl
                try simp only [Act.put, List.getElem_toArray, List.getElem_cons_zero, List.getElem_cons_succ, List.setIfInBounds_toArray, List.set_cons_zero, List.set_cons_succ]
                refine wpAnyY_takeC (v := ?_) [10, 8] rB6_4 rB6o_4 (fun _ _ _ h => h) (Or.inl ⟨by kernel_rfl, ?_⟩) hS ?_
                rotate_left
                · intro w' hSw; obtain ⟨_, q0, q1, q2, q3, q4, lg⟩ := hSw; go_simp; with_reducible rfl
                try simp only [Act.put, List.getElem_toArray, List.getElem_cons_zero, List.getElem_cons_succ, List.setIfInBounds_toArray, List.set_cons_zero, List.set_cons_succ]
                refine wpAnyY_takeC (v := ?_) [10, 8, 7, 6] rB6_5 rB6o_5 (fun _ _ _ h => h) (Or.inl ⟨by kernel_rfl, ?_⟩) hS ?_
                rotate_left
                · intro w' hSw; have l0 := hSw.1.lt; go_simp; with_reducible rfl
                try simp only [Act.put, List.getElem_toArray, List.getElem_cons_zero, List.getElem_cons_succ, List.setIfInBounds_toArray, List.set_cons_zero, List.set_cons_succ]
                refine wpAnyY_takeC (v := ?_) [10, 8, 7] rB6_6 rB6o_6 (fun _ _ _ h => h) (Or.inl ⟨by kernel_rfl, ?_⟩) hS ?_
                rotate_left
                · intro w' hSw; have m1 := hSw.1.cell 1; have l0 := hSw.1.lt; go_simp; with_reducible rfl
                try simp only [Act.put, List.getElem_toArray, List.getElem_cons_zero, List.getElem_cons_succ, List.setIfInBounds_toArray, List.set_cons_zero, List.set_cons_succ]
                refine wpAnyY_takeC (v := ?_) [10, 8] rB6_7 rB6o_7 (fun _ _ _ h => h) (Or.inl ⟨by kernel_rfl, ?_⟩) hS ?_
                rotate_left
                · intro w' hSw; go_simp; with_reducible rfl
                try simp only [Act.put, List.getElem_toArray, List.getElem_cons_zero, List.getElem_cons_succ, List.setIfInBounds_toArray, List.set_cons_zero, List.set_cons_succ]
                refine wpAnyY_oneSWC rB6_8 rB6o_8 (by kernel_rfl) (fun K8 hK8 => ?_)
                go_simp
                refine (HIR.out _ ga).mono ?_
                rintro e w5 ⟨rfl, hG5⟩
                replace ga := ga.t hG5
                refine hK8.out _ _ (hSk _ ga) (fun hS => ?_)
                clear hK8
                try simp only [Act.put, List.getElem_toArray, List.getElem_cons_zero, List.getElem_cons_succ, List.setIfInBounds_toArray, List.set_cons_zero, List.set_cons_succ]
                refine wpAnyY_takeC (v := ?_) [10] rB6_9 rB6o_9 (fun _ _ _ h => h) (Or.inl ⟨by kernel_rfl, ?_⟩) hS ?_
                rotate_left
                · intro w' hSw; go_simp; with_reducible rfl
                try simp only [Act.put, List.getElem_toArray, List.getElem_cons_zero, List.getElem_cons_succ, List.setIfInBounds_toArray, List.set_cons_zero, List.set_cons_succ]
                refine wpAnyY_takeC (v := ?_) [] rB6_10 rB6o_10 (fun _ _ _ h => h) (Or.inl ⟨by kernel_rfl, ?_⟩) hS ?_
                rotate_left
                · intro w' hSw; go_simp; with_reducible rfl
                try simp only [Act.put, List.getElem_toArray, List.getElem_cons_zero, List.getElem_cons_succ, List.setIfInBounds_toArray, List.set_cons_zero, List.set_cons_succ]
                refine wpAnyY_takeC (v := ?_) [20, 18] rB6_11 rB6o_11 (fun _ _ _ h => h) (Or.inl ⟨by kernel_rfl, ?_⟩) hS ?_
                rotate_left
                · intro w' hSw; have m0 := hSw.1.cell 0; have m1 := hSw.1.cell 1; have m2 := hSw.1.cell 2; have l0 := hSw.1.lt; go_simp; with_reducible rfl
                try simp only [Act.put, List.getElem_toArray, List.getElem_cons_zero, List.getElem_cons_succ, List.setIfInBounds_toArray, List.set_cons_zero, List.set_cons_succ]
                refine wpAnyY_takeC (v := ?_) [20, 18, 17, 16, 15, 13] rB6_12 rB6o_12 (fun _ _ _ h => h) (Or.inl ⟨by kernel_rfl, ?_⟩) hS ?_
                rotate_left
                · intro w' hSw; have l0 := hSw.1.lt; go_simp; with_reducible rfl
                try simp only [Act.put, List.getElem_toArray, List.getElem_cons_zero, List.getElem_cons_succ, List.setIfInBounds_toArray, List.set_cons_zero, List.set_cons_succ]
                refine wpAnyY_takeC (v := ?_) [20, 18, 17, 16, 15] rB6_13 rB6o_13 (fun _ _ _ h => h) (Or.inl ⟨by kernel_rfl, ?_⟩) hS ?_
                rotate_left
                · intro w' hSw; have m0 := hSw.1.cell 0; have l0 := hSw.1.lt; go_simp; with_reducible rfl
                try simp only [Act.put, List.getElem_toArray, List.getElem_cons_zero, List.getElem_cons_succ, List.setIfInBounds_toArray, List.set_cons_zero, List.set_cons_succ]
                refine wpAnyY_takeC (v := ?_) [20, 18, 17, 16, 15] rB6_14 rB6o_14 (fun _ _ _ h => h) (Or.inl ⟨by kernel_rfl, ?_⟩) hS ?_
                rotate_left
                · intro w' hSw; go_simp; with_reducible rfl
                try simp only [Act.put, List.getElem_toArray, List.getElem_cons_zero, List.getElem_cons_succ, List.setIfInBounds_toArray, List.set_cons_zero, List.set_cons_succ]
                refine wpAnyY_takeC (v := ?_) [20, 18, 17, 16] rB6_15 rB6o_15 (fun _ _ _ h => h) (Or.inl ⟨by kernel_rfl, ?_⟩) hS ?_
                rotate_left
                · intro w' hSw; go_simp; with_reducible rfl
                try simp only [Act.put, List.getElem_toArray, List.getElem_cons_zero, List.getElem_cons_succ, List.setIfInBounds_toArray, List.set_cons_zero, List.set_cons_succ]
                refine wpAnyY_takeC (v := ?_) [20, 18, 17] rB6_16 rB6o_16 (fun _ _ _ h => h) (Or.inl ⟨by kernel_rfl, ?_⟩) hS ?_
                rotate_left
                · intro w' hSw; go_simp; with_reducible rfl
                try simp only [Act.put, List.getElem_toArray, List.getElem_cons_zero, List.getElem_cons_succ, List.setIfInBounds_toArray, List.set_cons_zero, List.set_cons_succ]
                refine wpAnyY_takeC (v := ?_) [20, 18] rB6_17 rB6o_17 (fun _ _ _ h => h) (Or.inl ⟨by kernel_rfl, ?_⟩) hS ?_
                rotate_left
                · intro w' hSw; obtain ⟨_, q0, q1, q2, q3, q4, lg⟩ := hSw; go_simp; with_reducible rfl
                try simp only [Act.put, List.getElem_toArray, List.getElem_cons_zero, List.getElem_cons_succ, List.setIfInBounds_toArray, List.set_cons_zero, List.set_cons_succ]
                refine wpAnyY_takeC (v := ?_) [20] rB6_19 rB6o_19 (fun _ _ _ h => h) (Or.inl ⟨by kernel_rfl, ?_⟩) hS ?_
                rotate_left
                · intro w' hSw; go_simp; with_reducible rfl
                try simp only [Act.put, List.getElem_toArray, List.getElem_cons_zero, List.getElem_cons_succ, List.setIfInBounds_toArray, List.set_cons_zero, List.set_cons_succ]
                refine wpAnyY_oneSWC rB6_18 rB6o_18 (by kernel_rfl) (fun K18 hK18 => ?_)
                go_simp
                refine (HIX.out _ ga).mono ?_
                rintro e w6 ⟨rfl, hG6⟩
                replace ga := ga.t hG6
                refine hK18.out _ _ (hSk _ ga) (fun hS => ?_)
                clear hK18
                try simp only [Act.put, List.getElem_toArray, List.getElem_cons_zero, List.getElem_cons_succ, List.setIfInBounds_toArray, List.set_cons_zero, List.set_cons_succ]
                refine wpAnyY_takeC (v := ?_) [] rB6_20 rB6o_20 (fun _ _ _ h => h) (Or.inl ⟨by kernel_rfl, ?_⟩) hS ?_
                rotate_left
                · intro w' hSw; go_simp; with_reducible rfl
                try simp only [Act.put, List.getElem_toArray, List.getElem_cons_zero, List.getElem_cons_succ, List.setIfInBounds_toArray, List.set_cons_zero, List.set_cons_succ]
                refine wpAnyY_oneW (i := 21) (by kernel_rfl) rB6o_21 (by kernel_rfl) (by kernel_rfl) (fun K21 hK21 => ?_)
                go_simp
                refine hK21.out _ _ ?_
                clear hK21
                try simp only [Act.put, List.getElem_toArray, List.getElem_cons_zero, List.getElem_cons_succ, List.setIfInBounds_toArray, List.set_cons_zero, List.set_cons_succ]
                refine wpAnyY_done (by kernel_rfl) ?_ _
                clear hS hSk
                have hGz := hG.t ga
                have HZ := Lib.hid (HF.out _ HBADK.out (g0.t hGz))
                go_wp2_with fail
                first | exact HZ.out | (go_ret; exact HZ.out)
          · obtain rfl : k = racers.length := by omega
            have hki : ¬ ((racers.length : Nat) : Int) < racers.length := by omega
            have m1 := bo.cell 1
            have HRA := HN
            clear HN HIR0 hr0
            go_wp2_with fail
            clear m0 m1 l0
            go_loopw [4] (fun i wr => ∃ k : Nat, k ≤ pools.length ∧ i = .int .i64 k ∧ Hid (∀ j, j < k → poolB (pools.getD j default) = true) ∧ G W1 wr) (fun i _ => pools.length - (intOf i).toNat)
            case atStart => exact ⟨0, Nat.zero_le _, rfl, fun j hj => by omega, hG⟩
            case round =>
              clear hG bo
              obtain ⟨k, hk, rfl, HN, hG⟩ := hrel
              obtain ⟨wo, rfl⟩ : ∃ wo, wo = wr := ⟨_, rfl⟩
              have bo := b0.keep hG
              have m1 := bo.cell 1
              have l0 := bo.lt
              by_cases hlt : k < pools.length
              · have hki : (k : Int) < pools.length := by omega
                have HIP := Lib.hid (fun W (hW : G wo W) => HIP0.out k hlt W (g0.t (hG.t hW)))
                have HBAD := Lib.hid (HN3.out k hlt)
                rcases hp0 with h | ⟨g, off, rfl, hg, hcell⟩
                · omega
                have hcl := fun r hr => ((bcellB hG).1 g _ hg).trans (hcell k hlt r hr)
                have lg := Nat.lt_of_lt_of_le hg hG.size
                obtain ⟨y, hy⟩ : ∃ y, y = pools.getD k default := ⟨_, rfl⟩
                have HYY := Lib.hid hy
                rw [← hy] at hcl HIP HBAD
                clear hy hcell
                obtain ⟨ystake, ycut, ykind, yta, ytc, ytable, yquota, yfirst⟩ := y
                unfold Po.v at hcl HIP
                have q0 : wo.cell? ⟨g, off + k * 6, none⟩ = some (.int .i64 ystake) := hcl 0 (by omega)
                have q1 : wo.cell? ⟨g, off + k * 6 + 1, none⟩ = some (.int .i64 ycut) := hcl 1 (by omega)
                have q2 : wo.cell? ⟨g, off + k * 6 + 2, none⟩ = some (.int .i64 ykind) := hcl 2 (by omega)
                have q3 : wo.cell? ⟨g, off + k * 6 + 3, none⟩ = some (.slice yta ytable.length ytc) := hcl 3 (by omega)
                have q4 : wo.cell? ⟨g, off + k * 6 + 4, none⟩ = some (.int .i64 yquota) := hcl 4 (by omega)
                have q5 : wo.cell? ⟨g, off + k * 6 + 5, none⟩ = some (.bool yfirst) := hcl 5 (by omega)
                clear hcl
                obtain ⟨PK, hPK⟩ : ∃ PK, PK = poolB ⟨ystake, ycut, ykind, yta, ytc, ytable, yquota, yfirst⟩ := ⟨_, rfl⟩
                rw [← hPK] at HIP HBAD
                have HPK := Lib.hid hPK
                clear hPK
                cases PK
                · go_wp2_with (go_at_call 44; refine (HIP.out _ (G.rf _)).mono ?_; rintro e w5 ⟨rfl, hG5⟩)
                  have HZ := Lib.hid (HF.out _ (HBAD.out (by first | trivial | rfl)) (g0.t (hG.t hG5)))
                  first | exact HZ.out | (go_ret; exact HZ.out)
                · go_wp2_with (go_at_call 44; refine (HIP.out _ (G.rf _)).mono ?_; rintro e w5 ⟨rfl, hG5⟩)
                  go_roundw
                  case rel => exact ⟨k + 1, by omega, by go_num, fun j hj => by
                    rcases Nat.lt_or_ge j k with h4 | h4
                    · exact HN.out j h4
                    · obtain rfl : j = k := by omega
                      rw [← HYY.out]; exact HPK.out.symm, hG.t hG5⟩
                  case measure => simp [intOf] <;> omega
              · obtain rfl : k = pools.length := by omega
                have hki : ¬ ((pools.length : Nat) : Int) < pools.length := by omega
                have m2 := bo.cell 2
                have HPA := HN
                clear HN HIP0 hp0
                go_wp2_with fail
                clear m1 m2 l0
                go_loopw [5] (fun i wr => ∃ k : Nat, k ≤ protests.length ∧ i = .int .i64 k ∧ Hid (∀ j, j < k → ¬ IX (protests.getD j 0) < 0 ∧ ¬ (0 < j ∧ protests.getD j 0 ≤ protests.getD (j - 1) 0)) ∧ G W1 wr) (fun i _ => protests.length - (intOf i).toNat)
                case atStart => exact ⟨0, Nat.zero_le _, rfl, fun j hj => by omega, hG⟩
                case round =>
                  clear hG bo
                  obtain ⟨k, hk, rfl, HN, hG⟩ := hrel
                  obtain ⟨wo, rfl⟩ : ∃ wo, wo = wr := ⟨_, rfl⟩
                  have bo := b0.keep hG
                  have m2 := bo.cell 2
                  have l0 := bo.lt
                  by_cases hlt : k < protests.length
                  · have hki : (k : Int) < protests.length := by omega
                    have HBAD := Lib.hid (HN4.out k hlt)
                    have HIX1 := Lib.hid (fun b W (hW : G wo W) => HIX0.out b W (g0.t (hG.t hW)))
                    rcases ht0 with rfl | ⟨gt, oft, rfl, hgt, hcell⟩
                    · simp at hlt
                    obtain ⟨q, hq⟩ : ∃ q, q = k - 1 := ⟨_, rfl⟩
                    have hck := hcell k hlt
                    have hcq := hcell q (by omega)
                    have HQQ := Lib.hid hq
                    rw [← hq] at HBAD
                    obtain ⟨x, hx⟩ : ∃ x, x = protests.getD k 0 := ⟨_, rfl⟩
                    obtain ⟨y, hy⟩ : ∃ y, y = protests.getD q 0 := ⟨_, rfl⟩
                    have HX := Lib.hid hx
                    have HY2 := Lib.hid hy
                    rw [← hx] at hck HBAD
                    rw [← hy] at hcq HBAD
                    have hSk : ∀ W', G wo W' → Blk W' w.heap.size 26 #[.slice ra racers.length rc, .slice pa pools.length pc, .slice (some ⟨gt, oft, none⟩) protests.length tc] ∧ W'.cell? ⟨gt, oft + k, none⟩ = some (.int .i64 x) ∧ W'.cell? ⟨gt, oft + q, none⟩ = some (.int .i64 y) := fun W' hW => ⟨bo.keep hW, ((bcellB (hG.t hW)).1 gt _ hgt).trans hck, ((bcellB (hG.t hW)).1 gt _ hgt).trans hcq⟩
                    have HIX := Lib.hid (HIX1.out x)
                    obtain ⟨z, hz⟩ : ∃ z, z = IX x := ⟨_, rfl⟩
                    have HZZ := Lib.hid hz
                    rw [← hz] at HIX HBAD
                    clear hck hcq hcell hx hy hz HIX1
                    by_cases hzn : z < 0
                    · have hzb : decide (z < 0) = true := decide_eq_true hzn
                      have HBADK := Lib.hid (HBAD.out (.inl hzn))
                      clear HBAD hq
                      go_upto_region 16 with fail
                      refine wp_region_Y (S := fun W' => Blk W' w.heap.size 26 #[.slice ra racers.length rc, .slice pa pools.length pc, .slice (some ⟨gt, oft, none⟩) protests.length tc] ∧ W'.cell? ⟨gt, oft + k, none⟩ = some (.int .i64 x) ∧ W'.cell? ⟨gt, oft + q, none⟩ = some (.int .i64 y)) 25 26 rfl (by kernel_rfl) (hSk _ (G.rf _).d) (fun hS => ?_)
                      have ga := (G.rf wo).d
                      change wpAnyY _ _ opsB16 _ _ 25 26 #[false, false, false, false, false, false, false, false, false, false, false, false, false, false, false, false, false, false, false, false, false, false, false, false, false, false] _ _
                      refine wpAnyY_takeC (v := ?_) [8, 6] rB16_0 rB16o_0 (fun _ _ _ h => h) (Or.inl ⟨by kernel_rfl, ?_⟩) hS ?_
                      rotate_left
                      · intro w' hSw; have m0 := hSw.1.cell 0; have m1 := hSw.1.cell 1; have m2 := hSw.1.cell 2; have l0 := hSw.1.lt; go_simp; with_reducible rfl
                      try simp only [Act.put, List.getElem_toArray, List.getElem_cons_zero, List.getElem_cons_succ, List.setIfInBounds_toArray, List.set_cons_zero, List.set_cons_succ]
                      refine wpAnyY_takeC (v := ?_) [8, 6, 5, 4, 2] rB16_1 rB16o_1 (fun _ _ _ h => h) (Or.inl ⟨by kernel_rfl, ?_⟩) hS ?_
                      rotate_left
                      · intro w' hSw; have l0 := hSw.1.lt; go_simp; with_reducible rfl
                      try simp only [Act.put, List.getElem_toArray, List.getElem_cons_zero, List.getElem_cons_succ, List.setIfInBounds_toArray, List.set_cons_zero, List.set_cons_succ]
                      refine wpAnyY_takeC (v := ?_) [8, 6, 5, 4] rB16_2 rB16o_2 (fun _ _ _ h => h) (Or.inl ⟨by kernel_rfl, ?_⟩) hS ?_
                      rotate_left
                      · intro w' hSw; have m2 := hSw.1.cell 2; have l0 := hSw.1.lt; go_simp; with_reducible rfl
                      try simp only [Act.put, List.getElem_toArray, List.getElem_cons_zero, List.getElem_cons_succ, List.setIfInBounds_toArray, List.set_cons_zero, List.set_cons_succ]
                      refine wpAnyY_takeC (v := ?_) [8, 6, 5, 4] rB16_3 rB16o_3 (fun _ _ _ h => h) (Or.inl ⟨by kernel_rfl, ?_⟩) hS ?_
                      rotate_left
                      · intro w' hSw; go_simp; with_reducible rfl
                      try simp only [Act.put, List.getElem_toArray, List.getElem_cons_zero, List.getElem_cons_succ, List.setIfInBounds_toArray, List.set_cons_zero, List.set_cons_succ]
                      refine wpAnyY_takeC (v := ?_) [8, 6, 5] rB16_4 rB16o_4 (fun _ _ _ h => h) (Or.inl ⟨by kernel_rfl, ?_⟩) hS ?_
                      rotate_left
                      · intro w' hSw; go_simp; with_reducible rfl
                      try simp only [Act.put, List.getElem_toArray, List.getElem_cons_zero, List.getElem_cons_succ, List.setIfInBounds_toArray, List.set_cons_zero, List.set_cons_succ]
                      refine wpAnyY_takeC (v := ?_) [8, 6] rB16_5 rB16o_5 (fun _ _ _ h => h) (Or.inl ⟨by kernel_rfl, ?_⟩) hS ?_
                      rotate_left
                      · intro w' hSw; have q1 := hSw.2.1; go_simp; with_reducible rfl
                      try simp only [Act.put, List.getElem_toArray, List.getElem_cons_zero, List.getElem_cons_succ, List.setIfInBounds_toArray, List.set_cons_zero, List.set_cons_succ]
                      refine wpAnyY_oneSWC rB16_6 rB16o_6 (by kernel_rfl) (fun K6 hK6 => ?_)
                      go_simp
                      refine (HIX.out _ ga).mono ?_
                      rintro e w5 ⟨rfl, hG5⟩
                      replace ga := ga.t hG5
                      refine hK6.out _ _ (hSk _ ga) (fun hS => ?_)
                      clear hK6
                      try simp only [Act.put, List.getElem_toArray, List.getElem_cons_zero, List.getElem_cons_succ, List.setIfInBounds_toArray, List.set_cons_zero, List.set_cons_succ]
                      refine wpAnyY_takeC (v := ?_) [8] rB16_7 rB16o_7 (fun _ _ _ h => h) (Or.inl ⟨by kernel_rfl, ?_⟩) hS ?_
                      rotate_left
                      · intro w' hSw; go_simp; with_reducible rfl
                      try simp only [Act.put, List.getElem_toArray, List.getElem_cons_zero, List.getElem_cons_succ, List.setIfInBounds_toArray, List.set_cons_zero, List.set_cons_succ]
                      refine wpAnyY_takeC (v := ?_) [] rB16_8 rB16o_8 (fun _ _ _ h => h) (Or.inl ⟨by kernel_rfl, ?_⟩) hS ?_
                      rotate_left
                      · intro w' hSw; go_simp; with_reducible rfl
                      try simp only [Act.put, List.getElem_toArray, List.getElem_cons_zero, List.getElem_cons_succ, List.setIfInBounds_toArray, List.set_cons_zero, List.set_cons_succ]
                      refine wpAnyY_takeC (v := undef) [24, 11, 10] rB16_9 rB16o_9 (fun _ _ _ h => h) (Or.inr ⟨by kernel_rfl, rfl⟩) hS ?_
                      try simp only [Act.put, List.getElem_toArray, List.getElem_cons_zero, List.getElem_cons_succ, List.setIfInBounds_toArray, List.set_cons_zero, List.set_cons_succ]
                      refine wpAnyY_takeC (v := undef) [24, 11] rB16_10 rB16o_10 (fun _ _ _ h => h) (Or.inr ⟨by kernel_rfl, rfl⟩) hS ?_
                      try simp only [Act.put, List.getElem_toArray, List.getElem_cons_zero, List.getElem_cons_succ, List.setIfInBounds_toArray, List.set_cons_zero, List.set_cons_succ]
                      refine wpAnyY_takeC (v := undef) [24] rB16_11 rB16o_11 (fun _ _ _ h => h) (Or.inr ⟨by kernel_rfl, rfl⟩) hS ?_
                      try simp only [Act.put, List.getElem_toArray, List.getElem_cons_zero, List.getElem_cons_succ, List.setIfInBounds_toArray, List.set_cons_zero, List.set_cons_succ]
                      refine wpAnyY_takeC (v := undef) [24, 23, 16, 15, 13] rB16_12 rB16o_12 (fun _ _ _ h => h) (Or.inr ⟨by kernel_rfl, rfl⟩) hS ?_
                      try simp only [Act.put, List.getElem_toArray, List.getElem_cons_zero, List.getElem_cons_succ, List.setIfInBounds_toArray, List.set_cons_zero, List.set_cons_succ]
                      refine wpAnyY_takeC (v := undef) [24, 23, 16, 15] rB16_13 rB16o_13 (fun _ _ _ h => h) (Or.inr ⟨by kernel_rfl, rfl⟩) hS ?_
                      try simp only [Act.put, List.getElem_toArray, List.getElem_cons_zero, List.getElem_cons_succ, List.setIfInBounds_toArray, List.set_cons_zero, List.set_cons_succ]
                      refine wpAnyY_takeC (v := undef) [24, 23, 16, 15] rB16_14 rB16o_14 (fun _ _ _ h => h) (Or.inr ⟨by kernel_rfl, rfl⟩) hS ?_
                      try simp only [Act.put, List.getElem_toArray, List.getElem_cons_zero, List.getElem_cons_succ, List.setIfInBounds_toArray, List.set_cons_zero, List.set_cons_succ]
                      refine wpAnyY_takeC (v := undef) [24, 23, 16] rB16_15 rB16o_15 (fun _ _ _ h => h) (Or.inr ⟨by kernel_rfl, rfl⟩) hS ?_
                      try simp only [Act.put, List.getElem_toArray, List.getElem_cons_zero, List.getElem_cons_succ, List.setIfInBounds_toArray, List.set_cons_zero, List.set_cons_succ]
                      refine wpAnyY_takeC (v := undef) [24, 23] rB16_16 rB16o_16 (fun _ _ _ h => h) (Or.inr ⟨by kernel_rfl, rfl⟩) hS ?_
                      try simp only [Act.put, List.getElem_toArray, List.getElem_cons_zero, List.getElem_cons_succ, List.setIfInBounds_toArray, List.set_cons_zero, List.set_cons_succ]
                      refine wpAnyY_takeC (v := undef) [24, 23, 22, 21, 18] rB16_17 rB16o_17 (fun _ _ _ h => h) (Or.inr ⟨by kernel_rfl, rfl⟩) hS ?_
                      try simp only [Act.put, List.getElem_toArray, List.getElem_cons_zero, List.getElem_cons_succ, List.setIfInBounds_toArray, List.set_cons_zero, List.set_cons_succ]
                      refine wpAnyY_takeC (v := undef) [24, 23, 22, 21] rB16_18 rB16o_18 (fun _ _ _ h => h) (Or.inr ⟨by kernel_rfl, rfl⟩) hS ?_
                      try simp only [Act.put, List.getElem_toArray, List.getElem_cons_zero, List.getElem_cons_succ, List.setIfInBounds_toArray, List.set_cons_zero, List.set_cons_succ]
                      refine wpAnyY_takeC (v := undef) [24, 23, 22, 21, 20] rB16_19 rB16o_19 (fun _ _ _ h => h) (Or.inr ⟨by kernel_rfl, rfl⟩) hS ?_
                      try simp only [Act.put, List.getElem_toArray, List.getElem_cons_zero, List.getElem_cons_succ, List.setIfInBounds_toArray, List.set_cons_zero, List.set_cons_succ]
                      refine wpAnyY_takeC (v := undef) [24, 23, 22, 21] rB16_20 rB16o_20 (fun _ _ _ h => h) (Or.inr ⟨by kernel_rfl, rfl⟩) hS ?_
                      try simp only [Act.put, List.getElem_toArray, List.getElem_cons_zero, List.getElem_cons_succ, List.setIfInBounds_toArray, List.set_cons_zero, List.set_cons_succ]
                      refine wpAnyY_takeC (v := undef) [24, 23, 22] rB16_21 rB16o_21 (fun _ _ _ h => h) (Or.inr ⟨by kernel_rfl, rfl⟩) hS ?_
                      try simp only [Act.put, List.getElem_toArray, List.getElem_cons_zero, List.getElem_cons_succ, List.setIfInBounds_toArray, List.set_cons_zero, List.set_cons_succ]
                      refine wpAnyY_takeC (v := undef) [24, 23] rB16_22 rB16o_22 (fun _ _ _ h => h) (Or.inr ⟨by kernel_rfl, rfl⟩) hS ?_
                      try simp only [Act.put, List.getElem_toArray, List.getElem_cons_zero, List.getElem_cons_succ, List.setIfInBounds_toArray, List.set_cons_zero, List.set_cons_succ]
                      refine wpAnyY_takeC (v := undef) [24] rB16_23 rB16o_23 (fun _ _ _ h => h) (Or.inr ⟨by kernel_rfl, rfl⟩) hS ?_
                      try simp only [Act.put, List.getElem_toArray, List.getElem_cons_zero, List.getElem_cons_succ, List.setIfInBounds_toArray, List.set_cons_zero, List.set_cons_succ]
                      refine wpAnyY_takeC (v := undef) [] rB16_24 rB16o_24 (fun _ _ _ h => h) (Or.inr ⟨by kernel_rfl, rfl⟩) hS ?_
                      try simp only [Act.put, List.getElem_toArray, List.getElem_cons_zero, List.getElem_cons_succ, List.setIfInBounds_toArray, List.set_cons_zero, List.set_cons_succ]
                      refine wpAnyY_oneW (i := 25) (by kernel_rfl) rB16o_25 (by kernel_rfl) (by kernel_rfl) (fun K25 hK25 => ?_)
                      go_simp
                      refine hK25.out _ _ ?_
                      clear hK25
                      try simp only [Act.put, List.getElem_toArray, List.getElem_cons_zero, List.getElem_cons_succ, List.setIfInBounds_toArray, List.set_cons_zero, List.set_cons_succ]
                      refine wpAnyY_done (by kernel_rfl) ?_ _
                      clear hS hSk
                      have hGz := hG.t ga
                      have HZ := Lib.hid (HF.out _ HBADK.out (g0.t hGz))
                      go_wp2_with fail
                      first | exact HZ.out | (go_ret; exact HZ.out)
                    · have hzb : decide (z < 0) = false := decide_eq_false hzn
                      by_cases hk0 : k = 0
                      · have hkn : ¬ (0 : Int) < (k : Int) := by omega
                        have hd1 : decide ((0 : Int) < (k : Int)) = false := decide_eq_false hkn
                        have hd2 : decide (0 < k) = false := by simpa using hk0
                        have HK0 := Lib.hid hk0
                        have HZN := Lib.hid hzn
                        clear hk0 hq HBAD
                        go_upto_region 16 with fail
                        refine wp_region_Y (S := fun W' => Blk W' w.heap.size 26 #[.slice ra racers.length rc, .slice pa pools.length pc, .slice (some ⟨gt, oft, none⟩) protests.length tc] ∧ W'.cell? ⟨gt, oft + k, none⟩ = some (.int .i64 x) ∧ W'.cell? ⟨gt, oft + q, none⟩ = some (.int .i64 y)) 25 26 rfl (by kernel_rfl) (hSk _ (G.rf _).d) (fun hS => ?_)
                        have ga := (G.rf wo).d
                        change wpAnyY _ _ opsB16 _ _ 25 26 #[false, false, false, false, false, false, false, false, false, false, false, false, false, false, false, false, false, false, false, false, false, false, false, false, false, false] _ _
                        refine wpAnyY_takeC (v := ?_) [8, 6] rB16_0 rB16o_0 (fun _ _ _ h => h) (Or.inl ⟨by kernel_rfl, ?_⟩) hS ?_
                        rotate_left
                        · intro w' hSw; have m0 := hSw.1.cell 0; have m1 := hSw.1.cell 1; have m2 := hSw.1.cell 2; have l0 := hSw.1.lt; go_simp; with_reducible rfl
                        try simp only [Act.put, List.getElem_toArray, List.getElem_cons_zero, List.getElem_cons_succ, List.setIfInBounds_toArray, List.set_cons_zero, List.set_cons_succ]
                        refine wpAnyY_takeC (v := ?_) [8, 6, 5, 4, 2] rB16_1 rB16o_1 (fun _ _ _ h => h) (Or.inl ⟨by kernel_rfl, ?_⟩) hS ?_
                        rotate_left
                        · intro w' hSw; have l0 := hSw.1.lt; go_simp; with_reducible rfl
                        try simp only [Act.put, List.getElem_toArray, List.getElem_cons_zero, List.getElem_cons_succ, List.setIfInBounds_toArray, List.set_cons_zero, List.set_cons_succ]
                        refine wpAnyY_takeC (v := ?_) [8, 6, 5, 4] rB16_2 rB16o_2 (fun _ _ _ h => h) (Or.inl ⟨by kernel_rfl, ?_⟩) hS ?_
                        rotate_left
                        · intro w' hSw; have m2 := hSw.1.cell 2; have l0 := hSw.1.lt; go_simp; with_reducible rfl
                        try simp only [Act.put, List.getElem_toArray, List.getElem_cons_zero, List.getElem_cons_succ, List.setIfInBounds_toArray, List.set_cons_zero, List.set_cons_succ]
                        refine wpAnyY_takeC (v := ?_) [8, 6, 5, 4] rB16_3 rB16o_3 (fun _ _ _ h => h) (Or.inl ⟨by kernel_rfl, ?_⟩) hS ?_
                        rotate_left
                        · intro w' hSw; go_simp; with_reducible rfl
                        try simp only [Act.put, List.getElem_toArray, List.getElem_cons_zero, List.getElem_cons_succ, List.setIfInBounds_toArray, List.set_cons_zero, List.set_cons_succ]
                        refine wpAnyY_takeC (v := ?_) [8, 6, 5] rB16_4 rB16o_4 (fun _ _ _ h => h) (Or.inl ⟨by kernel_rfl, ?_⟩) hS ?_
                        rotate_left
                        · intro w' hSw; go_simp; with_reducible rfl
                        try simp only [Act.put, List.getElem_toArray, List.getElem_cons_zero, List.getElem_cons_succ, List.setIfInBounds_toArray, List.set_cons_zero, List.set_cons_succ]
                        refine wpAnyY_takeC (v := ?_) [8, 6] rB16_5 rB16o_5 (fun _ _ _ h => h) (Or.inl ⟨by kernel_rfl, ?_⟩) hS ?_
                        rotate_left
                        · intro w' hSw; have q1 := hSw.2.1; go_simp; with_reducible rfl
                        try simp only [Act.put, List.getElem_toArray, List.getElem_cons_zero, List.getElem_cons_succ, List.setIfInBounds_toArray, List.set_cons_zero, List.set_cons_succ]
                        refine wpAnyY_oneSWC rB16_6 rB16o_6 (by kernel_rfl) (fun K6 hK6 => ?_)
                        go_simp
                        refine (HIX.out _ ga).mono ?_
                        rintro e w5 ⟨rfl, hG5⟩
                        replace ga := ga.t hG5
                        refine hK6.out _ _ (hSk _ ga) (fun hS => ?_)
                        clear hK6
                        try simp only [Act.put, List.getElem_toArray, List.getElem_cons_zero, List.getElem_cons_succ, List.setIfInBounds_toArray, List.set_cons_zero, List.set_cons_succ]
                        refine wpAnyY_takeC (v := ?_) [8] rB16_7 rB16o_7 (fun _ _ _ h => h) (Or.inl ⟨by kernel_rfl, ?_⟩) hS ?_
                        rotate_left
                        · intro w' hSw; go_simp; with_reducible rfl
                        try simp only [Act.put, List.getElem_toArray, List.getElem_cons_zero, List.getElem_cons_succ, List.setIfInBounds_toArray, List.set_cons_zero, List.set_cons_succ]
                        refine wpAnyY_takeC (v := ?_) [] rB16_8 rB16o_8 (fun _ _ _ h => h) (Or.inl ⟨by kernel_rfl, ?_⟩) hS ?_
                        rotate_left
                        · intro w' hSw; go_simp; with_reducible rfl
                        try simp only [Act.put, List.getElem_toArray, List.getElem_cons_zero, List.getElem_cons_succ, List.setIfInBounds_toArray, List.set_cons_zero, List.set_cons_succ]
                        refine wpAnyY_takeC (v := ?_) [24, 11, 10] rB16_9 rB16o_9 (fun _ _ _ h => h) (Or.inl ⟨by kernel_rfl, ?_⟩) hS ?_
                        rotate_left
                        · intro w' hSw; go_simp; with_reducible rfl
                        try simp only [Act.put, List.getElem_toArray, List.getElem_cons_zero, List.getElem_cons_succ, List.setIfInBounds_toArray, List.set_cons_zero, List.set_cons_succ]
                        refine wpAnyY_takeC (v := ?_) [24, 11] rB16_10 rB16o_10 (fun _ _ _ h => h) (Or.inl ⟨by kernel_rfl, ?_⟩) hS ?_
                        rotate_left
                        · intro w' hSw; go_simp; with_reducible rfl
                        try simp only [Act.put, List.getElem_toArray, List.getElem_cons_zero, List.getElem_cons_succ, List.setIfInBounds_toArray, List.set_cons_zero, List.set_cons_succ]
                        refine wpAnyY_takeC (v := ?_) [24] rB16_11 rB16o_11 (fun _ _ _ h => h) (Or.inl ⟨by kernel_rfl, ?_⟩) hS ?_
                        rotate_left
                        · intro w' hSw; go_simp; with_reducible rfl
                        try simp only [Act.put, List.getElem_toArray, List.getElem_cons_zero, List.getElem_cons_succ, List.setIfInBounds_toArray, List.set_cons_zero, List.set_cons_succ]
                        refine wpAnyY_takeC (v := undef) [24, 23, 16, 15, 13] rB16_12 rB16o_12 (fun _ _ _ h => h) (Or.inr ⟨by kernel_rfl, rfl⟩) hS ?_
                        try simp only [Act.put, List.getElem_toArray, List.getElem_cons_zero, List.getElem_cons_succ, List.setIfInBounds_toArray, List.set_cons_zero, List.set_cons_succ]
                        refine wpAnyY_takeC (v := undef) [24, 23, 16, 15] rB16_13 rB16o_13 (fun _ _ _ h => h) (Or.inr ⟨by kernel_rfl, rfl⟩) hS ?_
                        try simp only [Act.put, List.getElem_toArray, List.getElem_cons_zero, List.getElem_cons_succ, List.setIfInBounds_toArray, List.set_cons_zero, List.set_cons_succ]
                        refine wpAnyY_takeC (v := undef) [24, 23, 16, 15] rB16_14 rB16o_14 (fun _ _ _ h => h) (Or.inr ⟨by kernel_rfl, rfl⟩) hS ?_
                        try simp only [Act.put, List.getElem_toArray, List.getElem_cons_zero, List.getElem_cons_succ, List.setIfInBounds_toArray, List.set_cons_zero, List.set_cons_succ]
                        refine wpAnyY_takeC (v := undef) [24, 23, 16] rB16_15 rB16o_15 (fun _ _ _ h => h) (Or.inr ⟨by kernel_rfl, rfl⟩) hS ?_
                        try simp only [Act.put, List.getElem_toArray, List.getElem_cons_zero, List.getElem_cons_succ, List.setIfInBounds_toArray, List.set_cons_zero, List.set_cons_succ]
                        refine wpAnyY_takeC (v := undef) [24, 23] rB16_16 rB16o_16 (fun _ _ _ h => h) (Or.inr ⟨by kernel_rfl, rfl⟩) hS ?_
                        try simp only [Act.put, List.getElem_toArray, List.getElem_cons_zero, List.getElem_cons_succ, List.setIfInBounds_toArray, List.set_cons_zero, List.set_cons_succ]
                        refine wpAnyY_takeC (v := undef) [24, 23, 22, 21, 18] rB16_17 rB16o_17 (fun _ _ _ h => h) (Or.inr ⟨by kernel_rfl, rfl⟩) hS ?_
                        try simp only [Act.put, List.getElem_toArray, List.getElem_cons_zero, List.getElem_cons_succ, List.setIfInBounds_toArray, List.set_cons_zero, List.set_cons_succ]
                        refine wpAnyY_takeC (v := undef) [24, 23, 22, 21] rB16_18 rB16o_18 (fun _ _ _ h => h) (Or.inr ⟨by kernel_rfl, rfl⟩) hS ?_
                        try simp only [Act.put, List.getElem_toArray, List.getElem_cons_zero, List.getElem_cons_succ, List.setIfInBounds_toArray, List.set_cons_zero, List.set_cons_succ]
                        refine wpAnyY_takeC (v := undef) [24, 23, 22, 21, 20] rB16_19 rB16o_19 (fun _ _ _ h => h) (Or.inr ⟨by kernel_rfl, rfl⟩) hS ?_
                        try simp only [Act.put, List.getElem_toArray, List.getElem_cons_zero, List.getElem_cons_succ, List.setIfInBounds_toArray, List.set_cons_zero, List.set_cons_succ]
                        refine wpAnyY_takeC (v := undef) [24, 23, 22, 21] rB16_20 rB16o_20 (fun _ _ _ h => h) (Or.inr ⟨by kernel_rfl, rfl⟩) hS ?_
                        try simp only [Act.put, List.getElem_toArray, List.getElem_cons_zero, List.getElem_cons_succ, List.setIfInBounds_toArray, List.set_cons_zero, List.set_cons_succ]
                        refine wpAnyY_takeC (v := undef) [24, 23, 22] rB16_21 rB16o_21 (fun _ _ _ h => h) (Or.inr ⟨by kernel_rfl, rfl⟩) hS ?_
                        try simp only [Act.put, List.getElem_toArray, List.getElem_cons_zero, List.getElem_cons_succ, List.setIfInBounds_toArray, List.set_cons_zero, List.set_cons_succ]
                        refine wpAnyY_takeC (v := undef) [24, 23] rB16_22 rB16o_22 (fun _ _ _ h => h) (Or.inr ⟨by kernel_rfl, rfl⟩) hS ?_
                        try simp only [Act.put, List.getElem_toArray, List.getElem_cons_zero, List.getElem_cons_succ, List.setIfInBounds_toArray, List.set_cons_zero, List.set_cons_succ]
                        refine wpAnyY_takeC (v := undef) [24] rB16_23 rB16o_23 (fun _ _ _ h => h) (Or.inr ⟨by kernel_rfl, rfl⟩) hS ?_
                        try simp only [Act.put, List.getElem_toArray, List.getElem_cons_zero, List.getElem_cons_succ, List.setIfInBounds_toArray, List.set_cons_zero, List.set_cons_succ]
                        refine wpAnyY_takeC (v := ?_) [] rB16_24 rB16o_24 (fun _ _ _ h => h) (Or.inl ⟨by kernel_rfl, ?_⟩) hS ?_
                        rotate_left
                        · intro w' hSw; go_simp; with_reducible rfl
                        try simp only [Act.put, List.getElem_toArray, List.getElem_cons_zero, List.getElem_cons_succ, List.setIfInBounds_toArray, List.set_cons_zero, List.set_cons_succ]
                        refine wpAnyY_oneW (i := 25) (by kernel_rfl) rB16o_25 (by kernel_rfl) (by kernel_rfl) (fun K25 hK25 => ?_)
                        go_simp
                        refine hK25.out _ _ ?_
                        clear hK25
                        try simp only [Act.put, List.getElem_toArray, List.getElem_cons_zero, List.getElem_cons_succ, List.setIfInBounds_toArray, List.set_cons_zero, List.set_cons_succ]
                        refine wpAnyY_done (by kernel_rfl) ?_ _
                        clear hS hSk
                        have hGz := hG.t ga
                        go_wp2_with fail
                        go_roundw
                        case rel => exact ⟨k + 1, by omega, by go_num, fun j hj => by
                          rcases Nat.lt_or_ge j k with h4 | h4
                          · exact HN.out j h4
                          · obtain rfl : j = k := by omega
                            rw [← HX.out, ← HZZ.out]
                            exact ⟨HZN.out, fun hh => by have := HK0.out; omega⟩, hGz⟩
                        case measure => simp [intOf] <;> omega
                      · have hkn : (0 : Int) < (k : Int) := by omega
                        have hd1 : decide ((0 : Int) < (k : Int)) = true := decide_eq_true hkn
                        have hk0n : 0 < k := by omega
                        have hd2 : decide (0 < k) = true := decide_eq_true hk0n
                        have x1 : IntKind.i64.wrap ((k : Int) - 1) = (q : Nat) := by rw [IntWalk.i64_in _ (by omega)]; omega
                        have hqi : (q : Int) < protests.length := by omega
                        have hqn : q < protests.length := by omega
                        clear hq hk0
                        by_cases hle : x ≤ y
                        · have hdl : decide (x ≤ y) = true := decide_eq_true hle
                          have HBADK := Lib.hid (HBAD.out (.inr ⟨hk0n, hle⟩))
                          clear HBAD
                          go_upto_region 16 with fail
                          refine wp_region_Y (S := fun W' => Blk W' w.heap.size 26 #[.slice ra racers.length rc, .slice pa pools.length pc, .slice (some ⟨gt, oft, none⟩) protests.length tc] ∧ W'.cell? ⟨gt, oft + k, none⟩ = some (.int .i64 x) ∧ W'.cell? ⟨gt, oft + q, none⟩ = some (.int .i64 y)) 25 26 rfl (by kernel_rfl) (hSk _ (G.rf _).d) (fun hS => ?_)
                          have ga := (G.rf wo).d
                          change wpAnyY _ _ opsB16 _ _ 25 26 #[false, false, false, false, false, false, false, false, false, false, false, false, false, false, false, false, false, false, false, false, false, false, false, false, false, false] _ _
                          refine wpAnyY_takeC (v := ?_) [8, 6] rB16_0 rB16o_0 (fun _ _ _ h => h) (Or.inl ⟨by kernel_rfl, ?_⟩) hS ?_
                          rotate_left
                          · intro w' hSw; have m0 := hSw.1.cell 0; have m1 := hSw.1.cell 1; have m2 := hSw.1.cell 2; have l0 := hSw.1.lt; go_simp; with_reducible rfl
                          try simp only [Act.put, List.getElem_toArray, List.getElem_cons_zero, List.getElem_cons_succ, List.setIfInBounds_toArray, List.set_cons_zero, List.set_cons_succ]
                          refine wpAnyY_takeC (v := ?_) [8, 6, 5, 4, 2] rB16_1 rB16o_1 (fun _ _ _ h => h) (Or.inl ⟨by kernel_rfl, ?_⟩) hS ?_
                          rotate_left
                          · intro w' hSw; have l0 := hSw.1.lt; go_simp; with_reducible rfl
                          try simp only [Act.put, List.getElem_toArray, List.getElem_cons_zero, List.getElem_cons_succ, List.setIfInBounds_toArray, List.set_cons_zero, List.set_cons_succ]
                          refine wpAnyY_takeC (v := ?_) [8, 6, 5, 4] rB16_2 rB16o_2 (fun _ _ _ h => h) (Or.inl ⟨by kernel_rfl, ?_⟩) hS ?_
                          rotate_left
                          · intro w' hSw; have m2 := hSw.1.cell 2; have l0 := hSw.1.lt; go_simp; with_reducible rfl
                          try simp only [Act.put, List.getElem_toArray, List.getElem_cons_zero, List.getElem_cons_succ, List.setIfInBounds_toArray, List.set_cons_zero, List.set_cons_succ]
                          refine wpAnyY_takeC (v := ?_) [8, 6, 5, 4] rB16_3 rB16o_3 (fun _ _ _ h => h) (Or.inl ⟨by kernel_rfl, ?_⟩) hS ?_
                          rotate_left
                          · intro w' hSw; go_simp; with_reducible rfl
                          try simp only [Act.put, List.getElem_toArray, List.getElem_cons_zero, List.getElem_cons_succ, List.setIfInBounds_toArray, List.set_cons_zero, List.set_cons_succ]
                          refine wpAnyY_takeC (v := ?_) [8, 6, 5] rB16_4 rB16o_4 (fun _ _ _ h => h) (Or.inl ⟨by kernel_rfl, ?_⟩) hS ?_
                          rotate_left
                          · intro w' hSw; go_simp; with_reducible rfl
                          try simp only [Act.put, List.getElem_toArray, List.getElem_cons_zero, List.getElem_cons_succ, List.setIfInBounds_toArray, List.set_cons_zero, List.set_cons_succ]
                          refine wpAnyY_takeC (v := ?_) [8, 6] rB16_5 rB16o_5 (fun _ _ _ h => h) (Or.inl ⟨by kernel_rfl, ?_⟩) hS ?_
                          rotate_left
                          · intro w' hSw; have q1 := hSw.2.1; go_simp; with_reducible rfl
                          try simp only [Act.put, List.getElem_toArray, List.getElem_cons_zero, List.getElem_cons_succ, List.setIfInBounds_toArray, List.set_cons_zero, List.set_cons_succ]
                          refine wpAnyY_oneSWC rB16_6 rB16o_6 (by kernel_rfl) (fun K6 hK6 => ?_)
                          go_simp
                          refine (HIX.out _ ga).mono ?_
                          rintro e w5 ⟨rfl, hG5⟩
                          replace ga := ga.t hG5
                          refine hK6.out _ _ (hSk _ ga) (fun hS => ?_)
                          clear hK6
                          try simp only [Act.put, List.getElem_toArray, List.getElem_cons_zero, List.getElem_cons_succ, List.setIfInBounds_toArray, List.set_cons_zero, List.set_cons_succ]
                          refine wpAnyY_takeC (v := ?_) [8] rB16_7 rB16o_7 (fun _ _ _ h => h) (Or.inl ⟨by kernel_rfl, ?_⟩) hS ?_
                          rotate_left
                          · intro w' hSw; go_simp; with_reducible rfl
                          try simp only [Act.put, List.getElem_toArray, List.getElem_cons_zero, List.getElem_cons_succ, List.setIfInBounds_toArray, List.set_cons_zero, List.set_cons_succ]
                          refine wpAnyY_takeC (v := ?_) [] rB16_8 rB16o_8 (fun _ _ _ h => h) (Or.inl ⟨by kernel_rfl, ?_⟩) hS ?_
                          rotate_left
                          · intro w' hSw; go_simp; with_reducible rfl
                          try simp only [Act.put, List.getElem_toArray, List.getElem_cons_zero, List.getElem_cons_succ, List.setIfInBounds_toArray, List.set_cons_zero, List.set_cons_succ]
                          refine wpAnyY_takeC (v := ?_) [24, 11, 10] rB16_9 rB16o_9 (fun _ _ _ h => h) (Or.inl ⟨by kernel_rfl, ?_⟩) hS ?_
                          rotate_left
                          · intro w' hSw; go_simp; with_reducible rfl
                          try simp only [Act.put, List.getElem_toArray, List.getElem_cons_zero, List.getElem_cons_succ, List.setIfInBounds_toArray, List.set_cons_zero, List.set_cons_succ]
                          refine wpAnyY_takeC (v := ?_) [24, 11] rB16_10 rB16o_10 (fun _ _ _ h => h) (Or.inl ⟨by kernel_rfl, ?_⟩) hS ?_
                          rotate_left
                          · intro w' hSw; go_simp; with_reducible rfl
                          try simp only [Act.put, List.getElem_toArray, List.getElem_cons_zero, List.getElem_cons_succ, List.setIfInBounds_toArray, List.set_cons_zero, List.set_cons_succ]
                          refine wpAnyY_takeC (v := ?_) [24] rB16_11 rB16o_11 (fun _ _ _ h => h) (Or.inl ⟨by kernel_rfl, ?_⟩) hS ?_
                          rotate_left
                          · intro w' hSw; go_simp; with_reducible rfl
                          try simp only [Act.put, List.getElem_toArray, List.getElem_cons_zero, List.getElem_cons_succ, List.setIfInBounds_toArray, List.set_cons_zero, List.set_cons_succ]
                          refine wpAnyY_takeC (v := ?_) [24, 23, 16, 15, 13] rB16_12 rB16o_12 (fun _ _ _ h => h) (Or.inl ⟨by kernel_rfl, ?_⟩) hS ?_
                          rotate_left
                          · intro w' hSw; have l0 := hSw.1.lt; go_simp; with_reducible rfl
                          try simp only [Act.put, List.getElem_toArray, List.getElem_cons_zero, List.getElem_cons_succ, List.setIfInBounds_toArray, List.set_cons_zero, List.set_cons_succ]
                          refine wpAnyY_takeC (v := ?_) [24, 23, 16, 15] rB16_13 rB16o_13 (fun _ _ _ h => h) (Or.inl ⟨by kernel_rfl, ?_⟩) hS ?_
                          rotate_left
                          · intro w' hSw; have m2 := hSw.1.cell 2; have l0 := hSw.1.lt; go_simp; with_reducible rfl
                          try simp only [Act.put, List.getElem_toArray, List.getElem_cons_zero, List.getElem_cons_succ, List.setIfInBounds_toArray, List.set_cons_zero, List.set_cons_succ]
                          refine wpAnyY_takeC (v := ?_) [24, 23, 16, 15] rB16_14 rB16o_14 (fun _ _ _ h => h) (Or.inl ⟨by kernel_rfl, ?_⟩) hS ?_
                          rotate_left
                          · intro w' hSw; go_simp; with_reducible rfl
                          try simp only [Act.put, List.getElem_toArray, List.getElem_cons_zero, List.getElem_cons_succ, List.setIfInBounds_toArray, List.set_cons_zero, List.set_cons_succ]
                          refine wpAnyY_takeC (v := ?_) [24, 23, 16] rB16_15 rB16o_15 (fun _ _ _ h => h) (Or.inl ⟨by kernel_rfl, ?_⟩) hS ?_
                          rotate_left
                          · intro w' hSw; go_simp; with_reducible rfl
                          try simp only [Act.put, List.getElem_toArray, List.getElem_cons_zero, List.getElem_cons_succ, List.setIfInBounds_toArray, List.set_cons_zero, List.set_cons_succ]
                          refine wpAnyY_takeC (v := ?_) [24, 23] rB16_16 rB16o_16 (fun _ _ _ h => h) (Or.inl ⟨by kernel_rfl, ?_⟩) hS ?_
                          rotate_left
                          · intro w' hSw; have q1 := hSw.2.1; go_simp; with_reducible rfl
                          try simp only [Act.put, List.getElem_toArray, List.getElem_cons_zero, List.getElem_cons_succ, List.setIfInBounds_toArray, List.set_cons_zero, List.set_cons_succ]
                          refine wpAnyY_takeC (v := ?_) [24, 23, 22, 21, 18] rB16_17 rB16o_17 (fun _ _ _ h => h) (Or.inl ⟨by kernel_rfl, ?_⟩) hS ?_
                          rotate_left
                          · intro w' hSw; have l0 := hSw.1.lt; go_simp; with_reducible rfl
                          try simp only [Act.put, List.getElem_toArray, List.getElem_cons_zero, List.getElem_cons_succ, List.setIfInBounds_toArray, List.set_cons_zero, List.set_cons_succ]
                          refine wpAnyY_takeC (v := ?_) [24, 23, 22, 21] rB16_18 rB16o_18 (fun _ _ _ h => h) (Or.inl ⟨by kernel_rfl, ?_⟩) hS ?_
                          rotate_left
                          · intro w' hSw; have m2 := hSw.1.cell 2; have l0 := hSw.1.lt; go_simp; with_reducible rfl
                          try simp only [Act.put, List.getElem_toArray, List.getElem_cons_zero, List.getElem_cons_succ, List.setIfInBounds_toArray, List.set_cons_zero, List.set_cons_succ]
                          refine wpAnyY_takeC (v := ?_) [24, 23, 22, 21, 20] rB16_19 rB16o_19 (fun _ _ _ h => h) (Or.inl ⟨by kernel_rfl, ?_⟩) hS ?_
                          rotate_left
                          · intro w' hSw; go_simp; with_reducible rfl
                          try simp only [Act.put, List.getElem_toArray, List.getElem_cons_zero, List.getElem_cons_succ, List.setIfInBounds_toArray, List.set_cons_zero, List.set_cons_succ]
                          refine wpAnyY_takeC (v := ?_) [24, 23, 22, 21] rB16_20 rB16o_20 (fun _ _ _ h => h) (Or.inl ⟨by kernel_rfl, ?_⟩) hS ?_
                          rotate_left
                          · intro w' hSw; go_simp; with_reducible rfl
                          try simp only [Act.put, List.getElem_toArray, List.getElem_cons_zero, List.getElem_cons_succ, List.setIfInBounds_toArray, List.set_cons_zero, List.set_cons_succ]
                          refine wpAnyY_takeC (v := ?_) [24, 23, 22] rB16_21 rB16o_21 (fun _ _ _ h => h) (Or.inl ⟨by kernel_rfl, ?_⟩) hS ?_
                          rotate_left
                          · intro w' hSw; go_simp; with_reducible rfl
                          try simp only [Act.put, List.getElem_toArray, List.getElem_cons_zero, List.getElem_cons_succ, List.setIfInBounds_toArray, List.set_cons_zero, List.set_cons_succ]
                          refine wpAnyY_takeC (v := ?_) [24, 23] rB16_22 rB16o_22 (fun _ _ _ h => h) (Or.inl ⟨by kernel_rfl, ?_⟩) hS ?_
                          rotate_left
                          · intro w' hSw; have q2 := hSw.2.2; go_simp; with_reducible rfl
                          try simp only [Act.put, List.getElem_toArray, List.getElem_cons_zero, List.getElem_cons_succ, List.setIfInBounds_toArray, List.set_cons_zero, List.set_cons_succ]
                          refine wpAnyY_takeC (v := ?_) [24] rB16_23 rB16o_23 (fun _ _ _ h => h) (Or.inl ⟨by kernel_rfl, ?_⟩) hS ?_
                          rotate_left
                          · intro w' hSw; go_simp; with_reducible rfl
                          try simp only [Act.put, List.getElem_toArray, List.getElem_cons_zero, List.getElem_cons_succ, List.setIfInBounds_toArray, List.set_cons_zero, List.set_cons_succ]
                          refine wpAnyY_takeC (v := ?_) [] rB16_24 rB16o_24 (fun _ _ _ h => h) (Or.inl ⟨by kernel_rfl, ?_⟩) hS ?_
                          rotate_left
                          · intro w' hSw; go_simp; with_reducible rfl
                          try simp only [Act.put, List.getElem_toArray, List.getElem_cons_zero, List.getElem_cons_succ, List.setIfInBounds_toArray, List.set_cons_zero, List.set_cons_succ]
                          refine wpAnyY_oneW (i := 25) (by kernel_rfl) rB16o_25 (by kernel_rfl) (by kernel_rfl) (fun K25 hK25 => ?_)
                          go_simp
                          refine hK25.out _ _ ?_
                          clear hK25
                          try simp only [Act.put, List.getElem_toArray, List.getElem_cons_zero, List.getElem_cons_succ, List.setIfInBounds_toArray, List.set_cons_zero, List.set_cons_succ]
                          refine wpAnyY_done (by kernel_rfl) ?_ _
                          clear hS hSk
                          have hGz := hG.t ga
                          have HZ := Lib.hid (HF.out _ HBADK.out (g0.t hGz))
                          go_wp2_with fail
                          first | exact HZ.out | (go_ret; exact HZ.out)
                        · have hdl : decide (x ≤ y) = false := decide_eq_false hle
                          have HZN := Lib.hid hzn
                          have HLE := Lib.hid hle
                          clear HBAD
                          go_upto_region 16 with fail
                          refine wp_region_Y (S := fun W' => Blk W' w.heap.size 26 #[.slice ra racers.length rc, .slice pa pools.length pc, .slice (some ⟨gt, oft, none⟩) protests.length tc] ∧ W'.cell? ⟨gt, oft + k, none⟩ = some (.int .i64 x) ∧ W'.cell? ⟨gt, oft + q, none⟩ = some (.int .i64 y)) 25 26 rfl (by kernel_rfl) (hSk _ (G.rf _).d) (fun hS => ?_)
                          have ga := (G.rf wo).d
                          change wpAnyY _ _ opsB16 _ _ 25 26 #[false, false, false, false, false, false, false, false, false, false, false, false, false, false, false, false, false, false, false, false, false, false, false, false, false, false] _ _
                          refine wpAnyY_takeC (v := ?_) [8, 6] rB16_0 rB16o_0 (fun _ _ _ h => h) (Or.inl ⟨by kernel_rfl, ?_⟩) hS ?_
                          rotate_left
                          · intro w' hSw; have m0 := hSw.1.cell 0; have m1 := hSw.1.cell 1; have m2 := hSw.1.cell 2; have l0 := hSw.1.lt; go_simp; with_reducible rfl
                          try simp only [Act.put, List.getElem_toArray, List.getElem_cons_zero, List.getElem_cons_succ, List.setIfInBounds_toArray, List.set_cons_zero, List.set_cons_succ]
                          refine wpAnyY_takeC (v := ?_) [8, 6, 5, 4, 2] rB16_1 rB16o_1 (fun _ _ _ h => h) (Or.inl ⟨by kernel_rfl, ?_⟩) hS ?_
                          rotate_left
                          · intro w' hSw; have l0 := hSw.1.lt; go_simp; with_reducible rfl
                          try simp only [Act.put, List.getElem_toArray, List.getElem_cons_zero, List.getElem_cons_succ, List.setIfInBounds_toArray, List.set_cons_zero, List.set_cons_succ]
                          refine wpAnyY_takeC (v := ?_) [8, 6, 5, 4] rB16_2 rB16o_2 (fun _ _ _ h => h) (Or.inl ⟨by kernel_rfl, ?_⟩) hS ?_
                          rotate_left
                          · intro w' hSw; have m2 := hSw.1.cell 2; have l0 := hSw.1.lt; go_simp; with_reducible rfl
                          try simp only [Act.put, List.getElem_toArray, List.getElem_cons_zero, List.getElem_cons_succ, List.setIfInBounds_toArray, List.set_cons_zero, List.set_cons_succ]
                          refine wpAnyY_takeC (v := ?_) [8, 6, 5, 4] rB16_3 rB16o_3 (fun _ _ _ h => h) (Or.inl ⟨by kernel_rfl, ?_⟩) hS ?_
                          rotate_left
                          · intro w' hSw; go_simp; with_reducible rfl
                          try simp only [Act.put, List.getElem_toArray, List.getElem_cons_zero, List.getElem_cons_succ, List.setIfInBounds_toArray, List.set_cons_zero, List.set_cons_succ]
                          refine wpAnyY_takeC (v := ?_) [8, 6, 5] rB16_4 rB16o_4 (fun _ _ _ h => h) (Or.inl ⟨by kernel_rfl, ?_⟩) hS ?_
                          rotate_left
                          · intro w' hSw; go_simp; with_reducible rfl
                          try simp only [Act.put, List.getElem_toArray, List.getElem_cons_zero, List.getElem_cons_succ, List.setIfInBounds_toArray, List.set_cons_zero, List.set_cons_succ]
                          refine wpAnyY_takeC (v := ?_) [8, 6] rB16_5 rB16o_5 (fun _ _ _ h => h) (Or.inl ⟨by kernel_rfl, ?_⟩) hS ?_
                          rotate_left
                          · intro w' hSw; have q1 := hSw.2.1; go_simp; with_reducible rfl
                          try simp only [Act.put, List.getElem_toArray, List.getElem_cons_zero, List.getElem_cons_succ, List.setIfInBounds_toArray, List.set_cons_zero, List.set_cons_succ]
                          refine wpAnyY_oneSWC rB16_6 rB16o_6 (by kernel_rfl) (fun K6 hK6 => ?_)
                          go_simp
                          refine (HIX.out _ ga).mono ?_
                          rintro e w5 ⟨rfl, hG5⟩
                          replace ga := ga.t hG5
                          refine hK6.out _ _ (hSk _ ga) (fun hS => ?_)
                          clear hK6
                          try simp only [Act.put, List.getElem_toArray, List.getElem_cons_zero, List.getElem_cons_succ, List.setIfInBounds_toArray, List.set_cons_zero, List.set_cons_succ]
                          refine wpAnyY_takeC (v := ?_) [8] rB16_7 rB16o_7 (fun _ _ _ h => h) (Or.inl ⟨by kernel_rfl, ?_⟩) hS ?_
                          rotate_left
                          · intro w' hSw; go_simp; with_reducible rfl
                          try simp only [Act.put, List.getElem_toArray, List.getElem_cons_zero, List.getElem_cons_succ, List.setIfInBounds_toArray, List.set_cons_zero, List.set_cons_succ]
                          refine wpAnyY_takeC (v := ?_) [] rB16_8 rB16o_8 (fun _ _ _ h => h) (Or.inl ⟨by kernel_rfl, ?_⟩) hS ?_
                          rotate_left
                          · intro w' hSw; go_simp; with_reducible rfl
                          try simp only [Act.put, List.getElem_toArray, List.getElem_cons_zero, List.getElem_cons_succ, List.setIfInBounds_toArray, List.set_cons_zero, List.set_cons_succ]
                          refine wpAnyY_takeC (v := ?_) [24, 11, 10] rB16_9 rB16o_9 (fun _ _ _ h => h) (Or.inl ⟨by kernel_rfl, ?_⟩) hS ?_
                          rotate_left
                          · intro w' hSw; go_simp; with_reducible rfl
                          try simp only [Act.put, List.getElem_toArray, List.getElem_cons_zero, List.getElem_cons_succ, List.setIfInBounds_toArray, List.set_cons_zero, List.set_cons_succ]
                          refine wpAnyY_takeC (v := ?_) [24, 11] rB16_10 rB16o_10 (fun _ _ _ h => h) (Or.inl ⟨by kernel_rfl, ?_⟩) hS ?_
                          rotate_left
                          · intro w' hSw; go_simp; with_reducible rfl
                          try simp only [Act.put, List.getElem_toArray, List.getElem_cons_zero, List.getElem_cons_succ, List.setIfInBounds_toArray, List.set_cons_zero, List.set_cons_succ]
                          refine wpAnyY_takeC (v := ?_) [24] rB16_11 rB16o_11 (fun _ _ _ h => h) (Or.inl ⟨by kernel_rfl, ?_⟩) hS ?_
                          rotate_left
                          · intro w' hSw; go_simp; with_reducible rfl
                          try simp only [Act.put, List.getElem_toArray, List.getElem_cons_zero, List.getElem_cons_succ, List.setIfInBounds_toArray, List.set_cons_zero, List.set_cons_succ]
                          refine wpAnyY_takeC (v := ?_) [24, 23, 16, 15, 13] rB16_12 rB16o_12 (fun _ _ _ h => h) (Or.inl ⟨by kernel_rfl, ?_⟩) hS ?_
                          rotate_left
                          · intro w' hSw; have l0 := hSw.1.lt; go_simp; with_reducible rfl
                          try simp only [Act.put, List.getElem_toArray, List.getElem_cons_zero, List.getElem_cons_succ, List.setIfInBounds_toArray, List.set_cons_zero, List.set_cons_succ]
                          refine wpAnyY_takeC (v := ?_) [24, 23, 16, 15] rB16_13 rB16o_13 (fun _ _ _ h => h) (Or.inl ⟨by kernel_rfl, ?_⟩) hS ?_
                          rotate_left
                          · intro w' hSw; have m2 := hSw.1.cell 2; have l0 := hSw.1.lt; go_simp; with_reducible rfl
                          try simp only [Act.put, List.getElem_toArray, List.getElem_cons_zero, List.getElem_cons_succ, List.setIfInBounds_toArray, List.set_cons_zero, List.set_cons_succ]
                          refine wpAnyY_takeC (v := ?_) [24, 23, 16, 15] rB16_14 rB16o_14 (fun _ _ _ h => h) (Or.inl ⟨by kernel_rfl, ?_⟩) hS ?_
                          rotate_left
                          · intro w' hSw; go_simp; with_reducible rfl
                          try simp only [Act.put, List.getElem_toArray, List.getElem_cons_zero, List.getElem_cons_succ, List.setIfInBounds_toArray, List.set_cons_zero, List.set_cons_succ]
                          refine wpAnyY_takeC (v := ?_) [24, 23, 16] rB16_15 rB16o_15 (fun _ _ _ h => h) (Or.inl ⟨by kernel_rfl, ?_⟩) hS ?_
                          rotate_left
                          · intro w' hSw; go_simp; with_reducible rfl
                          try simp only [Act.put, List.getElem_toArray, List.getElem_cons_zero, List.getElem_cons_succ, List.setIfInBounds_toArray, List.set_cons_zero, List.set_cons_succ]
                          refine wpAnyY_takeC (v := ?_) [24, 23] rB16_16 rB16o_16 (fun _ _ _ h => h) (Or.inl ⟨by kernel_rfl, ?_⟩) hS ?_
                          rotate_left
                          · intro w' hSw; have q1 := hSw.2.1; go_simp; with_reducible rfl
                          try simp only [Act.put, List.getElem_toArray, List.getElem_cons_zero, List.getElem_cons_succ, List.setIfInBounds_toArray, List.set_cons_zero, List.set_cons_succ]
                          refine wpAnyY_takeC (v := ?_) [24, 23, 22, 21, 18] rB16_17 rB16o_17 (fun _ _ _ h => h) (Or.inl ⟨by kernel_rfl, ?_⟩) hS ?_
                          rotate_left
                          · intro w' hSw; have l0 := hSw.1.lt; go_simp; with_reducible rfl
                          try simp only [Act.put, List.getElem_toArray, List.getElem_cons_zero, List.getElem_cons_succ, List.setIfInBounds_toArray, List.set_cons_zero, List.set_cons_succ]
                          refine wpAnyY_takeC (v := ?_) [24, 23, 22, 21] rB16_18 rB16o_18 (fun _ _ _ h => h) (Or.inl ⟨by kernel_rfl, ?_⟩) hS ?_
                          rotate_left
                          · intro w' hSw; have m2 := hSw.1.cell 2; have l0 := hSw.1.lt; go_simp; with_reducible rfl
                          try simp only [Act.put, List.getElem_toArray, List.getElem_cons_zero, List.getElem_cons_succ, List.setIfInBounds_toArray, List.set_cons_zero, List.set_cons_succ]
                          refine wpAnyY_takeC (v := ?_) [24, 23, 22, 21, 20] rB16_19 rB16o_19 (fun _ _ _ h => h) (Or.inl ⟨by kernel_rfl, ?_⟩) hS ?_
                          rotate_left
                          · intro w' hSw; go_simp; with_reducible rfl
                          try simp only [Act.put, List.getElem_toArray, List.getElem_cons_zero, List.getElem_cons_succ, List.setIfInBounds_toArray, List.set_cons_zero, List.set_cons_succ]
                          refine wpAnyY_takeC (v := ?_) [24, 23, 22, 21] rB16_20 rB16o_20 (fun _ _ _ h => h) (Or.inl ⟨by kernel_rfl, ?_⟩) hS ?_
                          rotate_left
                          · intro w' hSw; go_simp; with_reducible rfl
                          try simp only [Act.put, List.getElem_toArray, List.getElem_cons_zero, List.getElem_cons_succ, List.setIfInBounds_toArray, List.set_cons_zero, List.set_cons_succ]
                          refine wpAnyY_takeC (v := ?_) [24, 23, 22] rB16_21 rB16o_21 (fun _ _ _ h => h) (Or.inl ⟨by kernel_rfl, ?_⟩) hS ?_
                          rotate_left
                          · intro w' hSw; go_simp; with_reducible rfl
                          try simp only [Act.put, List.getElem_toArray, List.getElem_cons_zero, List.getElem_cons_succ, List.setIfInBounds_toArray, List.set_cons_zero, List.set_cons_succ]
                          refine wpAnyY_takeC (v := ?_) [24, 23] rB16_22 rB16o_22 (fun _ _ _ h => h) (Or.inl ⟨by kernel_rfl, ?_⟩) hS ?_
                          rotate_left
                          · intro w' hSw; have q2 := hSw.2.2; go_simp; with_reducible rfl
                          try simp only [Act.put, List.getElem_toArray, List.getElem_cons_zero, List.getElem_cons_succ, List.setIfInBounds_toArray, List.set_cons_zero, List.set_cons_succ]
                          refine wpAnyY_takeC (v := ?_) [24] rB16_23 rB16o_23 (fun _ _ _ h => h) (Or.inl ⟨by kernel_rfl, ?_⟩) hS ?_
                          rotate_left
                          · intro w' hSw; go_simp; with_reducible rfl
                          try simp only [Act.put, List.getElem_toArray, List.getElem_cons_zero, List.getElem_cons_succ, List.setIfInBounds_toArray, List.set_cons_zero, List.set_cons_succ]
                          refine wpAnyY_takeC (v := ?_) [] rB16_24 rB16o_24 (fun _ _ _ h => h) (Or.inl ⟨by kernel_rfl, ?_⟩) hS ?_
                          rotate_left
                          · intro w' hSw; go_simp; with_reducible rfl
                          try simp only [Act.put, List.getElem_toArray, List.getElem_cons_zero, List.getElem_cons_succ, List.setIfInBounds_toArray, List.set_cons_zero, List.set_cons_succ]
                          refine wpAnyY_oneW (i := 25) (by kernel_rfl) rB16o_25 (by kernel_rfl) (by kernel_rfl) (fun K25 hK25 => ?_)
                          go_simp
                          refine hK25.out _ _ ?_
                          clear hK25
                          try simp only [Act.put, List.getElem_toArray, List.getElem_cons_zero, List.getElem_cons_succ, List.setIfInBounds_toArray, List.set_cons_zero, List.set_cons_succ]
                          refine wpAnyY_done (by kernel_rfl) ?_ _
                          clear hS hSk
                          have hGz := hG.t ga
                          go_wp2_with fail
                          go_roundw
                          case rel => exact ⟨k + 1, by omega, by go_num, fun j hj => by
                            rcases Nat.lt_or_ge j k with h4 | h4
                            · exact HN.out j h4
                            · obtain rfl : j = k := by omega
                              rw [← HX.out, ← HZZ.out, ← HQQ.out, ← HY2.out]
                              exact ⟨HZN.out, fun hh => HLE.out hh.2⟩, hGz⟩
                          case measure => simp [intOf] <;> omega
                  · obtain rfl : k = protests.length := by omega
                    have hki : ¬ ((protests.length : Nat) : Int) < protests.length := by omega
                    have HZ := Lib.hid (HT.out wo (HY.out (by omega) (by omega) (by omega) HRA.out HPA.out (fun k hk => ⟨by have := (HN.out k hk).1; omega, (HN.out k hk).2⟩)) (g0.t hG))
                    go_wp2_with fail
                    first | exact HZ.out | (go_ret; exact HZ.out)
end Go.Proofs.YtnkmcoljijmgpaaGreat

set_option linter.unusedSimpArgs false
set_option linter.unusedVariables false
namespace Go.Proofs.YtnkmcoljijmgpaaGreat
open Go.RowKit Go.Shelf Go.Sort Go.Maps
attribute [local go_sem] Oper.semAt_some
/-- what of a racer the prizes look at -/
def rcK (x : Rc) : Int × Int × Int := (x.bird, x.rank, x.day)
theorem getK {l l' : List Rc} (h : l.map rcK = l'.map rcK) (i : Nat) : rcK (l.getD i default) = rcK (l'.getD i default) := by
  have e := congrArg (fun m => m[i]?) h
  simp only [List.getElem?_map] at e
  rw [List.getD_eq_getElem?_getD, List.getD_eq_getElem?_getD]
  cases h1 : l[i]? <;> cases h2 : l'[i]? <;> rw [h1, h2] at e <;> simp at e ⊢
  exact e
theorem lenK {l l' : List Rc} (h : l.map rcK = l'.map rcK) : l.length = l'.length := by
  have := congrArg List.length h
  simpa using this
theorem tksK {l l' : List Rc} (h : l.map rcK = l'.map rcK) : (tks l).map rcK = (tks l').map rcK := by
  unfold tks
  rw [List.map_mergeSort (f := rcK) (r := fun x y : Rc => !lexL y x) (s := fun a b : Int × Int × Int => !decide (b.2.2 < a.2.2 ∨ (b.2.2 = a.2.2 ∧ (b.2.1 < a.2.1 ∨ (b.2.1 = a.2.1 ∧ b.1 < a.1))))) (fun a _ b _ => rfl), List.map_mergeSort (f := rcK) (r := fun x y : Rc => !lexL y x) (s := fun a b : Int × Int × Int => !decide (b.2.2 < a.2.2 ∨ (b.2.2 = a.2.2 ∧ (b.2.1 < a.2.1 ∨ (b.2.1 = a.2.1 ∧ b.1 < a.1))))) (fun a _ b _ => rfl), h]
theorem filterK {l l' : List Rc} (h : l.map rcK = l'.map rcK) (p : Int × Int × Int → Bool) : (l.filter fun x => p (rcK x)).map rcK = (l'.filter fun x => p (rcK x)).map rcK := by
  have a : ∀ l : List Rc, (l.filter fun x => p (rcK x)).map rcK = (l.map rcK).filter p := fun l => by
    rw [List.filter_map]
    rfl
  rw [a, a, h]
/-- two funds of the same pool, whose birds are the same, with rank and day -/
structure KEq (f g : Fu) : Prop where
  po : f.po = g.po
  rs : f.rs.map rcK = g.rs.map rcK
theorem takersK {f g : Fu} (h : KEq f g) (st : List Int) : (takersL f st).map rcK = (takersL g st).map rcK := by
  unfold takersL
  rw [h.po]
  have e : ∀ x : Rc, skipB g.po.first st x = (fun k : Int × Int × Int => (decide (k.2.2 = 0) || (g.po.first && !decide (k.2.2 = 1))) || inL st k.1) (rcK x) := fun x => rfl
  simp only [e]
  exact tksK (filterK h.rs (fun k => !((decide (k.2.2 = 0) || (g.po.first && !decide (k.2.2 = 1))) || inL st k.1)))
theorem grpK {l l' : List Rc} (h : l.map rcK = l'.map rcK) : ∀ k, grpTo l k = grpTo l' k
  | 0 => rfl
  | k + 1 => by
    have ih := grpK h k
    have e0 := getK h k
    have e1 := getK h (k - 1)
    unfold rcK at e0 e1
    simp only [Prod.mk.injEq] at e0 e1
    have hs : sameB l k = sameB l' k := by
      unfold sameB befD
      rw [e0.2.1, e0.2.2, e1.2.1, e1.2.2]
    unfold grpTo
    rw [hs, ih, e0.1]
theorem orderK {f g : Fu} (h : KEq f g) (st : List Int) : orderL f st = orderL g st := by
  have e := takersK h st
  unfold orderL
  rw [lenK e, grpK e]
theorem leftK {f g : Fu} (h : KEq f g) : lefI f = lefI g ∧ totI f = totI g ∧ kepI f = kepI g := by
  have e := lenK h.rs
  unfold lefI kepI totI
  rw [h.po, e]
  exact ⟨rfl, rfl, rfl⟩
theorem placesK {f g : Fu} (h : KEq f g) : placesL f = placesL g := by
  unfold placesL nPl
  rw [(leftK h).1, h.po, lenK h.rs]
theorem wonK {f g : Fu} (h : KEq f g) (st : List Int) : wonL f st = wonL g st := by
  unfold wonL
  rw [orderK h, placesK h]
theorem resK {f g : Fu} (h : KEq f g) (st : List Int) : resI f st = resI g st := by
  unfold resI
  rw [wonK h, (leftK h).1]
theorem prizesK {f g : Fu} (h : KEq f g) : prizesL f = prizesL g := by
  unfold prizesL
  rw [wonK h, resK h, lenK h.rs]
  have e : ∀ i, (f.rs.getD i default).bird = (g.rs.getD i default).bird := fun i => by
    have := getK h.rs i
    unfold rcK at this
    simp only [Prod.mk.injEq] at this
    exact this.1
  simp only [e]
theorem potK {f g : Fu} (h : KEq f g) : potV f = potV g := by
  unfold potV
  rw [(leftK h).1, (leftK h).2.1, (leftK h).2.2, resK h]
end Go.Proofs.YtnkmcoljijmgpaaGreat

set_option linter.unusedSimpArgs false
set_option linter.unusedVariables false
namespace Go.Proofs.YtnkmcoljijmgpaaGreat
open Go.RowKit Go.Shelf Go.Sort Go.Maps
attribute [local go_sem] Oper.semAt_some
/-- a race as it lies, of any size -/
structure Ra.Laid (r : Ra) (W : World) : Prop where
  rs : RcsAt W r.ra r.racers
  ps : PosAt W r.pa r.pools
  ts : IntsAt W r.ta r.protests
  cr : r.racers.length ≤ r.rc
  ct : r.protests.length ≤ r.tc
theorem Ra.Laid.keep {r : Ra} {W W' : World} (h : r.Laid W) (hG : G W W') : r.Laid W' := ⟨h.rs.below hG, h.ps.below hG, h.ts.below hG, h.cr, h.ct⟩
def bigR (l : List Rc) : Bool := anyU (fun i => decide (20 < (l.getD i default).pools.length)) l.length
def bigP (l : List Po) : Bool := anyU (fun i => decide (20 < (l.getD i default).table.length)) l.length
def farR (r : Ra) : Bool := decide (40 < r.racers.length) || decide (20 < r.pools.length) || decide (20 < r.protests.length) || bigR r.racers || bigP r.pools
theorem anyU_false {p : Nat → Bool} {n : Nat} (h : anyU p n = false) {i : Nat} (hi : i < n) : p i = false := by
  unfold anyU at h
  have := List.any_eq_false.1 h i (List.mem_range.2 hi)
  simpa using this
theorem Ra.Laid.at {r : Ra} {W : World} (h : r.Laid W) (hf : farR r = false) : r.At W := by
  unfold farR at hf
  simp only [Bool.or_eq_false_iff, decide_eq_false_iff_not] at hf
  obtain ⟨⟨⟨⟨h1, h2⟩, h3⟩, h4⟩, h5⟩ := hf
  refine ⟨h.rs, h.ps, h.ts, by omega, h.cr, h.ct, by omega, by omega, fun i hi => ?_, fun i hi => ?_⟩
  · have := anyU_false h4 hi
    simp only [decide_eq_false_iff_not] at this
    omega
  · have := anyU_false h5 hi
    simp only [decide_eq_false_iff_not] at this
    omega
set_option maxRecDepth 100000 in
set_option maxHeartbeats 8000000 in
theorem Far8_any (r : Ra) (w : World) (h : r.Laid w) : Calls Tryz.prog 13 #[.agg r.v] w fun e w' => e = .returned (.bool (farR r)) ∧ G w w' := by
  have hpr := h.rs.row
  have hpp := h.ps.row
  have HT : Hid (∀ W', farR r = true → G w W' → ((Ending.returned (.bool true) = .returned (.bool (farR r))) ∧ G w W')) := fun W' a b => ⟨by rw [a], b⟩
  have HF : Hid (∀ W', farR r = false → G w W' → ((Ending.returned (.bool false) = .returned (.bool (farR r))) ∧ G w W')) := fun W' a b => ⟨by rw [a], b⟩
  have HE : Hid (farR r = (decide (40 < r.racers.length) || decide (20 < r.pools.length) || decide (20 < r.protests.length) || bigR r.racers || bigP r.pools)) := rfl
  have HBR : Hid (∀ k, k < r.racers.length → 20 < (r.racers.getD k default).pools.length → bigR r.racers = true) := fun k hk hh => anyU_yes hk (by simpa using hh)
  have HBN : Hid ((∀ k, k < r.racers.length → ¬ 20 < (r.racers.getD k default).pools.length) → bigR r.racers = false) := fun hh => anyU_no (fun k hk => by simpa using hh k hk)
  have HPR : Hid (∀ k, k < r.pools.length → 20 < (r.pools.getD k default).table.length → bigP r.pools = true) := fun k hk hh => anyU_yes hk (by simpa using hh)
  have HPN : Hid ((∀ k, k < r.pools.length → ¬ 20 < (r.pools.getD k default).table.length) → bigP r.pools = false) := fun hh => anyU_no (fun k hk => by simpa using hh k hk)
  generalize farR r = FB at *
  clear h
  obtain ⟨ra, rc, racers, pa, pc, pools, ta, tc, protests⟩ := r
  unfold Ra.v
  dsimp only at *
  generalize bigR racers = BR at *
  generalize bigP pools = BP at *
  have g0 : G w (w.alloc (.cells #[.slice ra racers.length rc, .slice pa pools.length pc, .slice ta protests.length tc] 26)) := (G.rf _).a _
  have b0 : Blk (w.alloc (.cells #[.slice ra racers.length rc, .slice pa pools.length pc, .slice ta protests.length tc] 26)) w.heap.size 26 #[.slice ra racers.length rc, .slice pa pools.length pc, .slice ta protests.length tc] := Blk.new _ _ _
  have hr0 := hpr.below g0
  have hp0 := hpp.below g0
  clear hpr hpp
  go_enter Tryz.func13, Tryz.ntmps13
  go_upto_region 1 with fail
  change Code.wp _ _ _ _ (w.alloc (.cells #[.slice ra racers.length rc, .slice pa pools.length pc, .slice ta protests.length tc] 26))
  generalize w.alloc (.cells #[.slice ra racers.length rc, .slice pa pools.length pc, .slice ta protests.length tc] 26) = W1 at *
  have m0 := b0.cell 0
  have m1 := b0.cell 1
  have m2 := b0.cell 2
  have l0 := b0.lt
  by_cases h1 : 40 < racers.length
  · have h1i : (40 : Int) < racers.length := by omega
    have HZ := Lib.hid (HT.out W1 (by rw [HE.out]; simp [h1]) g0)
    go_wp2_with fail
    first | exact HZ.out | (go_ret; exact HZ.out)
  · have h1i : ¬ (40 : Int) < racers.length := by omega
    by_cases h2 : 20 < pools.length
    · have h2i : (20 : Int) < pools.length := by omega
      have HZ := Lib.hid (HT.out W1 (by rw [HE.out]; simp [h2]) g0)
      go_wp2_with fail
      first | exact HZ.out | (go_ret; exact HZ.out)
    · have h2i : ¬ (20 : Int) < pools.length := by omega
      by_cases h3 : 20 < protests.length
      · have h3i : (20 : Int) < protests.length := by omega
        have HZ := Lib.hid (HT.out W1 (by rw [HE.out]; simp [h3]) g0)
        go_wp2_with fail
        first | exact HZ.out | (go_ret; exact HZ.out)
      · have h3i : ¬ (20 : Int) < protests.length := by omega
        go_wp2_with fail
        clear m0 m1 m2 l0
        go_loopw [3] (fun i wr => ∃ k : Nat, k ≤ racers.length ∧ i = .int .i64 k ∧ Hid (∀ j, j < k → ¬ 20 < (racers.getD j default).pools.length) ∧ G W1 wr) (fun i _ => racers.length - (intOf i).toNat)
        case atStart => exact ⟨0, Nat.zero_le _, rfl, fun j hj => by omega, G.rf _⟩
        case round =>
          obtain ⟨k, hk, rfl, HN, hG⟩ := hrel
          obtain ⟨wo, rfl⟩ : ∃ wo, wo = wr := ⟨_, rfl⟩
          have bo := b0.keep hG
          have m0 := bo.cell 0
          have l0 := bo.lt
          by_cases hlt : k < racers.length
          · have hki : (k : Int) < racers.length := by omega
            rcases hr0 with h | ⟨g, off, rfl, hg, hcell⟩
            · omega
            have q4 : wo.cell? ⟨g, off + k * 5 + 4, none⟩ = some (.slice (racers.getD k default).pa (racers.getD k default).pools.length (racers.getD k default).pc) := ((bcellB hG).1 g _ hg).trans (hcell k hlt 4 (by omega))
            have lg := Nat.lt_of_lt_of_le hg hG.size
            have HB := Lib.hid (HBR.out k hlt)
            obtain ⟨y, hy⟩ : ∃ y, y = racers.getD k default := ⟨_, rfl⟩
            have HY := Lib.hid hy
            rw [← hy] at q4 HB
            clear hy hcell
            obtain ⟨zbird, zowner, zrank, zday, zpa, zpc, zpools⟩ := y
            dsimp only at q4 HB
            by_cases hb : 20 < zpools.length
            · have hbi : (20 : Int) < zpools.length := by omega
              have HZ := Lib.hid (HT.out wo (by rw [HE.out, HB.out hb]; simp) (g0.t hG))
              go_wp2_with fail
              first | exact HZ.out | (go_ret; exact HZ.out)
            · have hbi : ¬ (20 : Int) < zpools.length := by omega
              go_wp2_with fail
              go_roundw
              case rel => exact ⟨k + 1, by omega, by go_num, fun j hj => by
                rcases Nat.lt_or_ge j k with h4 | h4
                · exact HN.out j h4
                · obtain rfl : j = k := by omega
                  rw [← HY.out]; exact hb, hG⟩
              case measure => simp [intOf] <;> omega
          · obtain rfl : k = racers.length := by omega
            have hki : ¬ ((racers.length : Nat) : Int) < racers.length := by omega
            have m1 := bo.cell 1
            have HBF := Lib.hid (HBN.out HN.out)
            go_wp2_with fail
            clear m0 m1 l0
            go_loopw [4] (fun i wr => ∃ k : Nat, k ≤ pools.length ∧ i = .int .i64 k ∧ Hid (∀ j, j < k → ¬ 20 < (pools.getD j default).table.length) ∧ G W1 wr) (fun i _ => pools.length - (intOf i).toNat)
            case atStart => exact ⟨0, Nat.zero_le _, rfl, fun j hj => by omega, hG⟩
            case round =>
              clear hG bo
              obtain ⟨k, hk, rfl, HN, hG⟩ := hrel
              obtain ⟨wo, rfl⟩ : ∃ wo, wo = wr := ⟨_, rfl⟩
              have bo := b0.keep hG
              have m1 := bo.cell 1
              have l0 := bo.lt
              by_cases hlt : k < pools.length
              · have hki : (k : Int) < pools.length := by omega
                rcases hp0 with h | ⟨g, off, rfl, hg, hcell⟩
                · omega
                have q3 : wo.cell? ⟨g, off + k * 6 + 3, none⟩ = some (.slice (pools.getD k default).ta (pools.getD k default).table.length (pools.getD k default).tc) := ((bcellB hG).1 g _ hg).trans (hcell k hlt 3 (by omega))
                have lg := Nat.lt_of_lt_of_le hg hG.size
                have HB := Lib.hid (HPR.out k hlt)
                obtain ⟨y, hy⟩ : ∃ y, y = pools.getD k default := ⟨_, rfl⟩
                have HY := Lib.hid hy
                rw [← hy] at q3 HB
                clear hy hcell
                obtain ⟨ystake, ycut, ykind, yta, ytc, ytable, yquota, yfirst⟩ := y
                dsimp only at q3 HB
                by_cases hb : 20 < ytable.length
                · have hbi : (20 : Int) < ytable.length := by omega
                  have HZ := Lib.hid (HT.out wo (by rw [HE.out, HB.out hb]; simp) (g0.t hG))
                  go_wp2_with fail
                  first | exact HZ.out | (go_ret; exact HZ.out)
                · have hbi : ¬ (20 : Int) < ytable.length := by omega
                  go_wp2_with fail
                  go_roundw
                  case rel => exact ⟨k + 1, by omega, by go_num, fun j hj => by
                    rcases Nat.lt_or_ge j k with h4 | h4
                    · exact HN.out j h4
                    · obtain rfl : j = k := by omega
                      rw [← HY.out]; exact hb, hG⟩
                  case measure => simp [intOf] <;> omega
              · obtain rfl : k = pools.length := by omega
                have hki : ¬ ((pools.length : Nat) : Int) < pools.length := by omega
                have HZ := Lib.hid (HF.out wo (by rw [HE.out, HBF.out, HPN.out HN.out]; simp [h1, h2, h3]) (g0.t hG))
                go_wp2_with fail
                first | exact HZ.out | (go_ret; exact HZ.out)
end Go.Proofs.YtnkmcoljijmgpaaGreat

set_option linter.unusedSimpArgs false
set_option linter.unusedVariables false
namespace Go.Proofs.YtnkmcoljijmgpaaGreat
open Go.RowKit Go.Shelf Go.ChangeShapes Go.WideShapes Go.ChangeAt
attribute [local go_sem] Oper.semAt_some
set_option maxRecDepth 100000
theorem k24 : Tryz.prog.cellsOf 24 = 1 := by kernel_rfl
theorem k60 : Tryz.prog.cellsOf 60 = 5 := by kernel_rfl
theorem k42 : Tryz.prog.cellsOf 42 = 6 := by kernel_rfl
theorem k23p : Tryz.prog.cellsOf 23 = 1 := by kernel_rfl
theorem k22p : Tryz.prog.cellsOf 22 = 1 := by kernel_rfl
theorem k26 : Tryz.prog.cellsOf 26 = 3 := by kernel_rfl
theorem k4 : Tryz.prog.cellsOf 4 = 1 := by kernel_rfl
section
variable {H : Type} {enc : TypeId × Value → H} {w : World} {fuel : Nat}
end
section
variable {H : Type} {enc : TypeId × Value → H} {w : World} {fuel : Nat}
end
section
variable {H : Type} {enc : TypeId × Value → H} {w : World} {fuel : Nat}
end
end Go.Proofs.YtnkmcoljijmgpaaGreat

set_option linter.unusedSimpArgs false
set_option linter.unusedVariables false
namespace Go.Proofs.YtnkmcoljijmgpaaGreat
open Go.RowKit Go.Shelf Go.Sort Go.Maps
attribute [local go_sem] Oper.semAt_some
theorem In_any (l : List Int) (a : Option Addr) (cap : Nat) (n : Int) (w : World) (h : IntsAt w a l) (hl : l.length ≤ 1000) : Calls Tryz.prog 28 #[.slice a l.length cap, .int .i64 n] w fun e w' => e = .returned (.bool (inL l n)) ∧ G w w' := by
  go_enter Tryz.func28, Tryz.ntmps28
  go_wp2_with fail
  go_loopw [5] (fun i wr => ∃ k : Nat, k ≤ l.length ∧ i = .int .i64 k ∧ Hid (∀ j, j < k → (n == l.getD j 0) = false) ∧ G w wr) (fun i _ => l.length - (intOf i).toNat)
  case atStart => exact ⟨0, Nat.zero_le _, rfl, fun j hj => by omega, G.rf _⟩
  case round =>
    obtain ⟨k, hk, rfl, hno, hG⟩ := hrel
    by_cases hlt : k < l.length
    · have hki : (k : Int) < l.length := by omega
      rcases h with rfl | ⟨g, off, rfl, hg, hcell⟩
      · simp at hlt
      have lg := Nat.lt_of_lt_of_le hg hG.size
      have q0 := ((bcellB hG).1 g _ hg).trans (hcell k hlt)
      obtain ⟨y, hy⟩ : ∃ y, y = l.getD k 0 := ⟨_, rfl⟩
      have HY := Lib.hid hy
      rw [← hy] at q0
      clear hy hcell
      cases hp : (n == y)
      · have HP := Lib.hid hp
        have hne : ¬ y = n := fun e => by rw [e] at hp; simp at hp
        have hnb : (y == n) = false := by simpa using hne
        clear hp
        go_wp2_with fail
        go_roundw
        case rel => exact ⟨k + 1, by omega, by go_num, fun j hj => by
          rcases Nat.lt_or_ge j k with h | h
          · exact hno.out j h
          · obtain rfl : j = k := by omega
            rw [← HY.out]; exact HP.out, hG⟩
        case measure => simp [intOf] <;> omega
      · have HP : Hid (inL l n = true) := anyU_yes hlt (by rw [← HY.out]; exact hp)
        have hne : y = n := by have : n = y := by simpa using hp
                               exact this.symm
        subst hne
        clear hp
        go_wp2_with fail
        go_ret
        exact ⟨by rw [HP.out]; rfl, hG⟩
    · have hki : ¬ (k : Int) < l.length := by omega
      obtain rfl : k = l.length := by omega
      have HP : Hid (inL l n = false) := anyU_no hno.out
      go_wp2_with fail
      go_ret
      exact ⟨by rw [HP.out]; rfl, hG⟩
end Go.Proofs.YtnkmcoljijmgpaaGreat

set_option linter.unusedSimpArgs false
set_option linter.unusedVariables false
namespace Go.Proofs.YtnkmcoljijmgpaaGreat
open Go.RowKit Go.Shelf Go.Sort Go.Maps
attribute [local go_sem] Oper.semAt_some
/-- a racer without the pools -/
def rcQ (x : Rc) : Int × Int × Int × Int := (x.bird, x.owner, x.rank, x.day)
theorem K_of_Q {l l' : List Rc} (h : l.map rcQ = l'.map rcQ) : l.map rcK = l'.map rcK := by
  have a : ∀ l : List Rc, l.map rcK = (l.map rcQ).map (fun q => (q.1, q.2.2.1, q.2.2.2)) := fun l => by
    rw [List.map_map]
    rfl
  rw [a, a, h]
theorem racer_parts {r : Ra} (h : raceB r = true) {x : Rc} (hx : x ∈ r.racers) : racerB r.pools.length x = true := by
  have h1 := race_parts h
  unfold racersB at h1
  simp only [Bool.and_eq_true] at h1
  obtain ⟨i, hi, rfl⟩ := List.mem_iff_getElem.1 hx
  have h2 := allU_iff.1 h1.2 i hi
  rw [List.getD_eq_getElem?_getD, List.getElem?_eq_getElem hi] at h2
  simp only [Bool.and_eq_true] at h2
  exact h2.2
end Go.Proofs.YtnkmcoljijmgpaaGreat

set_option linter.unusedSimpArgs false
set_option linter.unusedVariables false
namespace Go.Proofs.YtnkmcoljijmgpaaGreat
open Go.RowKit Go.Shelf Go.Sort Go.Maps
attribute [local go_sem] Oper.semAt_some
theorem own_cap {W : World} {B T k : Nat} {a : Option Addr} {n c : Nat} {xs : List Value} (h : W.ownsRow B T k (.slice a n c) n xs) : n ≤ c := by
  rcases h.2 with ⟨e, h0⟩ | ⟨g, cap, cur, e, _, _, h1, _⟩
  · omega
  · injection e with _ _ e3
    omega
theorem runners_len (r : Ra) (p : Int) : (runners r p).length ≤ r.racers.length := by
  unfold runners
  rw [srt_len]
  exact List.length_filter_le _ _
theorem own_ge {W : World} {base k n : Nat} {e : TypeId} {v : Value} {xs : List Value} (h : W.ownsRow base e k v n xs) : ∀ g, v.ownBlock = some g → base ≤ g := fun g hg => by
  rcases h.2 with ⟨rfl, _⟩ | ⟨g', cap, cur, rfl, hb, _⟩
  · cases hg
  · have : some g' = some g := hg
    injection this with e
    omega
end Go.Proofs.YtnkmcoljijmgpaaGreat

set_option linter.unusedSimpArgs false
set_option linter.unusedVariables false
namespace Go.Proofs.YtnkmcoljijmgpaaGreat
open Go.RowKit Go.Shelf Go.ChangeShapes Go.WideShapes Go.ChangeAt
attribute [local go_sem] Oper.semAt_some
set_option maxRecDepth 100000
/-- a slice that is nil has no capacity -/
def Ra.Nil (r : Ra) : Prop := (r.ta = none → r.tc = 0) ∧ (∀ i, i < r.racers.length → (r.racers.getD i default).pa = none → (r.racers.getD i default).pc = 0) ∧ ∀ i, i < r.pools.length → (r.pools.getD i default).ta = none → (r.pools.getD i default).tc = 0
section
variable {H : Type} {enc : TypeId × Value → H} {w : World} {fuel : Nat}
theorem ints_ofCN {cs : List Value} {x : DataW H × List MemPlace} (h : DataW.trod enc Tryz.prog w 0 (fun _ => true) true fuel 24 cs = some x) :
    ∃ (a : Option Addr) (cap : Nat) (l : List Int), cs = [.slice a l.length cap] ∧ (IntsAt w a l ∧ (a = none → cap = 0)) ∧ l.length ≤ cap := by
  rcases open_ints Tryz.underlying24 Tryz.underlying3 k3 h with ⟨rfl, _⟩ | ⟨a, len, cap, zs, rfl, hlc, hl, hm, hz, _, hcell, _⟩
  · exact ⟨none, 0, [], rfl, ⟨.inl rfl, fun _ => rfl⟩, by simp⟩
  · simp at hz
    have hlen : (zs.take len).length = len := by simp; omega
    refine ⟨some a, cap, zs.take len, by rw [hlen], ⟨?_, fun h => by cases h⟩, by omega⟩
    rcases Nat.eq_zero_or_pos len with h0 | h0
    · left; simp [h0]
    · right
      have c0 := hcell 0 (by omega)
      obtain ⟨b, off, spot⟩ := a
      have hspot : spot = none := by simpa [Addr.add] using World.cell?_spot c0
      subst hspot
      refine ⟨b, off, rfl, lt_of_cell (by simpa [Addr.add] using c0), fun k hk => ?_⟩
      have ck := hcell k (by omega)
      have hk2 : k < len := by omega
      have hk3 : k < zs.length := by omega
      rw [add_none] at ck
      simp [hk3] at ck
      simp [hk2, hk3, ck]
theorem racer_ofN {cs : List Value} {x : DataW H × List MemPlace} (h : DataW.trod enc Tryz.prog w 0 (fun _ => true) true fuel 60 cs = some x) :
    ∃ y : Rc, cs = y.v.toList ∧ (IntsAt w y.pa y.pools ∧ (y.pa = none → y.pc = 0)) := by
  obtain ⟨xs, n, _, rfl, hl, hlen, hf⟩ := DataW.trod_struct Tryz.underlying60 h
  rw [k60] at hl
  match cs, hl, xs, hlen with
  | [c0, c1, c2, c3, c4], _, [y0, y1, y2, y3, y4], _ =>
    have h0 := hf 0 _ rfl
    have h1 := hf 1 _ rfl
    have h2 := hf 2 _ rfl
    have h3 := hf 3 _ rfl
    have h4 := hf 4 _ rfl
    simp [k3, k24] at h0 h1 h2 h3 h4
    obtain ⟨a0, e0, _, _⟩ := DataW.trod_int Tryz.underlying3 h0
    obtain ⟨a1, e1, _, _⟩ := DataW.trod_int Tryz.underlying3 h1
    obtain ⟨a2, e2, _, _⟩ := DataW.trod_int Tryz.underlying3 h2
    obtain ⟨a3, e3, _, _⟩ := DataW.trod_int Tryz.underlying3 h3
    obtain ⟨ea, ec, l, e4, g4, _⟩ := ints_ofCN h4
    simp at e0 e1 e2 e3 e4
    subst e0 e1 e2 e3 e4
    exact ⟨⟨a0, a1, a2, a3, ea, ec, l⟩, rfl, g4⟩
theorem pool_of8N {cs : List Value} {x : DataW H × List MemPlace} (h : DataW.trod enc Tryz.prog w 0 (fun _ => true) true fuel 42 cs = some x) :
    ∃ y : Po, cs = y.v.toList ∧ (IntsAt w y.ta y.table ∧ (y.ta = none → y.tc = 0)) := by
  obtain ⟨xs, n, _, rfl, hl, hlen, hf⟩ := DataW.trod_struct Tryz.underlying42 h
  rw [k42] at hl
  match cs, hl, xs, hlen with
  | [c0, c1, c2, c3, c4, c5], _, [y0, y1, y2, y3, y4, y5], _ =>
    have h0 := hf 0 _ rfl
    have h1 := hf 1 _ rfl
    have h2 := hf 2 _ rfl
    have h3 := hf 3 _ rfl
    have h4 := hf 4 _ rfl
    have h5 := hf 5 _ rfl
    simp [k3, k24, k4] at h0 h1 h2 h3 h4 h5
    obtain ⟨a0, e0, _, _⟩ := DataW.trod_int Tryz.underlying3 h0
    obtain ⟨a1, e1, _, _⟩ := DataW.trod_int Tryz.underlying3 h1
    obtain ⟨a2, e2, _, _⟩ := DataW.trod_int Tryz.underlying3 h2
    obtain ⟨ea, ec, l, e3, g3, _⟩ := ints_ofCN h3
    obtain ⟨a4, e4, _, _⟩ := DataW.trod_int Tryz.underlying3 h4
    obtain ⟨b5, e5, _⟩ := DataW.trod_bool Tryz.underlying4 h5
    simp at e0 e1 e2 e3 e4 e5
    subst e0 e1 e2 e3 e4 e5
    exact ⟨⟨a0, a1, a2, ea, ec, l, a4, b5⟩, rfl, g3⟩
end
section
variable {H : Type} {enc : TypeId × Value → H} {w : World} {fuel : Nat}
theorem racers_ofN {cs : List Value} {x : DataW H × List MemPlace} (h : DataW.trod enc Tryz.prog w 0 (fun _ => true) true fuel 22 cs = some x) :
    ∃ (a : Option Addr) (cap : Nat) (l : List Rc), cs = [.slice a l.length cap] ∧ (RcsAt w a l ∧ ∀ i, i < l.length → (l.getD i default).pa = none → (l.getD i default).pc = 0) ∧ l.length ≤ cap := by
  rcases Deep.open_slice Tryz.underlying22 h with ⟨rfl, _⟩ | ⟨a, len, cap, m, n, D, Pl, rfl, hlc, hl, hm, hmm, _, hel⟩
  · exact ⟨none, 0, [], rfl, ⟨⟨.inl rfl, fun i hi => by simp at hi⟩, fun i hi => by simp at hi⟩, by simp⟩
  · simp at hmm
    rcases Nat.eq_zero_or_pos len with h0 | h0
    · subst h0
      exact ⟨some a, cap, [], rfl, ⟨⟨.inl rfl, fun i hi => by simp at hi⟩, fun i hi => by simp at hi⟩, by simp⟩
    · have hspot : a.spot = none := by
        obtain ⟨cs', h1, h2⟩ := hel 0 (by omega)
        obtain ⟨s, rfl, _⟩ := racer_ofN h2
        obtain ⟨_, _, hc⟩ := World.cells?_some h1
        rw [k60] at hc
        have c0 := hc 0 (by omega)
        simpa [Addr.add] using World.cell?_spot c0
      obtain ⟨b, off, spot⟩ := a
      simp only at hspot
      subst hspot
      have key : ∀ i, ∃ s : Rc, i < len → (∀ r, r < 5 → w.cell? ⟨b, off + i * 5 + r, none⟩ = s.v[r]?) ∧ (IntsAt w s.pa s.pools ∧ (s.pa = none → s.pc = 0)) := fun i => by
        by_cases hi : i < len
        · obtain ⟨cs', h1, h2⟩ := hel i (by omega)
          obtain ⟨s, rfl, hs⟩ := racer_ofN h2
          obtain ⟨_, _, hc⟩ := World.cells?_some h1
          rw [k60] at hc
          simp only [add_none] at hc
          refine ⟨s, fun _ => ⟨fun r hr => ?_, hs⟩⟩
          have := hc r hr
          rw [this]
          obtain ⟨s0, s1, s2, s3, s4, s5, s6⟩ := s
          match r, hr with
          | 0, _ => rfl
          | 1, _ => rfl
          | 2, _ => rfl
          | 3, _ => rfl
          | 4, _ => rfl
        · exact ⟨default, fun h => absurd h hi⟩
      obtain ⟨f, hf⟩ := Classical.axiomOfChoice key
      have hlen : ((List.range len).map f).length = len := by simp
      have hget : ∀ k, k < len → ((List.range len).map f).getD k default = f k := fun k hk => by simp [List.getD_eq_getElem?_getD, hk]
      refine ⟨some ⟨b, off, none⟩, cap, (List.range len).map f, by rw [hlen], ⟨⟨.inr ⟨b, off, rfl, lt_of_cell ((hf 0 h0).1 0 (by omega)), fun k hk r hr => ?_⟩, fun k hk => ?_⟩, fun k hk => ?_⟩, by omega⟩
      · rw [hlen] at hk
        rw [hget k hk]
        exact (hf k hk).1 r hr
      · rw [hlen] at hk
        rw [hget k hk]
        exact (hf k hk).2.1
      · rw [hlen] at hk
        rw [hget k hk]
        exact (hf k hk).2.2
end
section
variable {H : Type} {enc : TypeId × Value → H} {w : World} {fuel : Nat}
theorem pools_of8N {cs : List Value} {x : DataW H × List MemPlace} (h : DataW.trod enc Tryz.prog w 0 (fun _ => true) true fuel 23 cs = some x) :
    ∃ (a : Option Addr) (cap : Nat) (l : List Po), cs = [.slice a l.length cap] ∧ (PosAt w a l ∧ ∀ i, i < l.length → (l.getD i default).ta = none → (l.getD i default).tc = 0) ∧ l.length ≤ cap := by
  rcases Deep.open_slice Tryz.underlying23 h with ⟨rfl, _⟩ | ⟨a, len, cap, m, n, D, Pl, rfl, hlc, hl, hm, hmm, _, hel⟩
  · exact ⟨none, 0, [], rfl, ⟨⟨.inl rfl, fun i hi => by simp at hi⟩, fun i hi => by simp at hi⟩, by simp⟩
  · simp at hmm
    rcases Nat.eq_zero_or_pos len with h0 | h0
    · subst h0
      exact ⟨some a, cap, [], rfl, ⟨⟨.inl rfl, fun i hi => by simp at hi⟩, fun i hi => by simp at hi⟩, by simp⟩
    · have hspot : a.spot = none := by
        obtain ⟨cs', h1, h2⟩ := hel 0 (by omega)
        obtain ⟨s, rfl, _⟩ := pool_of8N h2
        obtain ⟨_, _, hc⟩ := World.cells?_some h1
        rw [k42] at hc
        have c0 := hc 0 (by omega)
        simpa [Addr.add] using World.cell?_spot c0
      obtain ⟨b, off, spot⟩ := a
      simp only at hspot
      subst hspot
      have key : ∀ i, ∃ s : Po, i < len → (∀ r, r < 6 → w.cell? ⟨b, off + i * 6 + r, none⟩ = s.v[r]?) ∧ (IntsAt w s.ta s.table ∧ (s.ta = none → s.tc = 0)) := fun i => by
        by_cases hi : i < len
        · obtain ⟨cs', h1, h2⟩ := hel i (by omega)
          obtain ⟨s, rfl, hs⟩ := pool_of8N h2
          obtain ⟨_, _, hc⟩ := World.cells?_some h1
          rw [k42] at hc
          simp only [add_none] at hc
          refine ⟨s, fun _ => ⟨fun r hr => ?_, hs⟩⟩
          have := hc r hr
          rw [this]
          obtain ⟨s0, s1, s2, s3, s4, s5, s6, s7⟩ := s
          match r, hr with
          | 0, _ => rfl
          | 1, _ => rfl
          | 2, _ => rfl
          | 3, _ => rfl
          | 4, _ => rfl
          | 5, _ => rfl
        · exact ⟨default, fun h => absurd h hi⟩
      obtain ⟨f, hf⟩ := Classical.axiomOfChoice key
      have hlen : ((List.range len).map f).length = len := by simp
      have hget : ∀ k, k < len → ((List.range len).map f).getD k default = f k := fun k hk => by simp [List.getD_eq_getElem?_getD, hk]
      refine ⟨some ⟨b, off, none⟩, cap, (List.range len).map f, by rw [hlen], ⟨⟨.inr ⟨b, off, rfl, lt_of_cell ((hf 0 h0).1 0 (by omega)), fun k hk r hr => ?_⟩, fun k hk => ?_⟩, fun k hk => ?_⟩, by omega⟩
      · rw [hlen] at hk
        rw [hget k hk]
        exact (hf k hk).1 r hr
      · rw [hlen] at hk
        rw [hget k hk]
        exact (hf k hk).2.1
      · rw [hlen] at hk
        rw [hget k hk]
        exact (hf k hk).2.2
end
theorem race_ofN {H : Type} {enc : TypeId × Value → H} {w : World} {v : Value} {d : DataW H} {p : List MemPlace} {r : Reach} {b0 : Nat} (hv : Value.okWide Tryz.prog w r b0 26 v) (h : DataW.Trod enc Tryz.prog w 0 (fun _ => true) true 26 v d p) :
    ∃ R : Ra, v = .agg R.v ∧ R.Laid w ∧ R.Nil := by
  obtain ⟨cs, rfl, hsz⟩ := okWide_struct Tryz.underlying26 hv
  rw [k26] at hsz
  obtain ⟨l⟩ := cs
  obtain ⟨fuel, hf0⟩ := h
  obtain ⟨xs, n, _, _, hl, hlen, hf⟩ := DataW.trod_struct Tryz.underlying26 hf0
  match l, hsz, xs, hlen with
  | [c0, c1, c2], _, [y0, y1, y2], _ =>
    have h0 := hf 0 _ rfl
    have h1 := hf 1 _ rfl
    have h2 := hf 2 _ rfl
    simp [k24, k22p, k23p, Value.cells] at h0 h1 h2
    obtain ⟨ra, rc, racers, e0, g0, m0⟩ := racers_ofN h0
    obtain ⟨pa, pc, pools, e1, g1, m1⟩ := pools_of8N h1
    obtain ⟨ta, tc, prots, e2, g2, m2⟩ := ints_ofCN h2
    simp at e0 e1 e2
    subst e0 e1 e2
    exact ⟨⟨ra, rc, racers, pa, pc, pools, ta, tc, prots⟩, rfl, ⟨g0.1, g1.1, g2.1, m0, m2⟩, g2.2, g0.2, g1.2⟩
end Go.Proofs.YtnkmcoljijmgpaaGreat

set_option linter.unusedSimpArgs false
set_option linter.unusedVariables false
namespace Go.Proofs.YtnkmcoljijmgpaaGreat
open Go.RowKit Go.Shelf Go.Sort Go.Maps
attribute [local go_sem] Oper.semAt_some
theorem wpList_append_ints {W : World} {ops : Array Oper} {rest : List Oper} {o : Oper} {act : Act} {Q : Exit → Act → World → Prop} (hgd : o.guard = none) (s x : Operand)
    (ho : o.op = .call { callee := .builtin .append, args := #[s, x], argTypes := #[24, 24] }) (base : Nat) (v : Value) (hs : act.eval s = v) (hown : W.ownsRow base 3 1 v 0 [])
    (a : Option Addr) (l : List Int) (c : Nat) (hx : act.eval x = .slice a l.length c) (hI : IntsAt W a l) (hn : a = none → c = 0) (hl : l.length ≤ 1000) (hbase : base ≤ W.heap.size)
    (h : ∀ v' w', w'.ownsRow base 3 1 v' l.length (iv l) → W.grownBy w' v.ownBlock → wpList Tryz.prog ops Q rest (act.put o.dst v') w') : wpList Tryz.prog ops Q (o :: rest) act W := by
  obtain ⟨i0, hi0, hz0, hz1, hz2⟩ := info_parts info3
  cases a with
  | none =>
    have hl0 : l = [] := by
      rcases hI with h | ⟨_, _, h, _⟩
      · exact h
      · cases h
    subst hl0
    rw [hn rfl] at hx
    exact wpList_append_own_none hgd s x 24 ho base 3 i0 1 Tryz.underlying24 hi0 v 0 [] hs hown hx (h v W hown ⟨rfl, rfl, rfl, Nat.le_refl _, fun _ _ _ => rfl⟩)
  | some ad =>
    refine wpList_append_own _ hgd s x 24 ho base 3 i0 (.int .i64 0) 1 8 Tryz.underlying24 hi0 hz0 hz1 hz2 rfl (by decide) v 0 [] hs hown ad l.length c (iv l) hx (by rw [iv_len, Nat.mul_one]) ?_ (fun u hu => ?_) (by unfold maxLen; omega) (by omega) hbase (fun v' w' h1 h2 _ => ?_)
    · intro j u hu
      rcases hI with h | ⟨b, off, he, _, hc⟩
      · subst h
        simp [iv] at hu
      · cases he
        have hj : j < l.length := by
          have := (List.getElem?_eq_some_iff.1 hu).1
          rwa [iv_len] at this
        rw [add_off, hc j hj, ← iv_get l hj, hu]
    · obtain ⟨z, _, rfl⟩ := List.mem_map.1 hu
      rfl
    · rw [Nat.zero_add, List.nil_append] at h1
      exact h v' w' h1 h2
def rcP (x : Rc) : Int × Int × Int × Int × List Int := (x.bird, x.owner, x.rank, x.day, x.pools)
def poP (x : Po) : Int × Int × Int × List Int × Int × Bool := (x.stake, x.cut, x.kind, x.table, x.quota, x.first)
/-- a copy, of blocks of its own -/
structure CpIs (W : World) (B : Nat) (r o : Ra) : Prop where
  rr : W.ownsRow B 60 5 (.slice o.ra o.racers.length o.rc) o.racers.length (rcV o.racers)
  rp : ∀ y ∈ o.racers, W.ownsRow B 3 1 (.slice y.pa y.pools.length y.pc) y.pools.length (iv y.pools)
  pr : W.ownsRow B 42 6 (.slice o.pa o.pools.length o.pc) o.pools.length (cv Po.v o.pools)
  pt : ∀ y ∈ o.pools, W.ownsRow B 3 1 (.slice y.ta y.table.length y.tc) y.table.length (iv y.table)
  tr : W.ownsRow B 3 1 (.slice o.ta o.protests.length o.tc) o.protests.length (iv o.protests)
  er : o.racers.map rcP = r.racers.map rcP
  ep : o.pools.map poP = r.pools.map poP
  et : o.protests = r.protests
def CpPost (r : Ra) (w : World) (e : Ending) (w' : World) : Prop := G w w' ∧ ∃ o, e = .returned (.agg o.v) ∧ CpIs w' w.heap.size r o
/-- the racers that are copied so far -/
def CrAt (W : World) (B : Nat) (v : Value) (L : List Rc) : Prop := W.ownsRow B 60 5 v L.length (rcV L) ∧ ∀ y ∈ L, W.ownsRow B 3 1 (.slice y.pa y.pools.length y.pc) y.pools.length (iv y.pools)
def CoAt (W : World) (B : Nat) (v : Value) (L : List Po) : Prop := W.ownsRow B 42 6 v L.length (cv Po.v L) ∧ ∀ y ∈ L, W.ownsRow B 3 1 (.slice y.ta y.table.length y.tc) y.table.length (iv y.table)
theorem CrAt.keep {W W' : World} {B : Nat} {v : Value} {L : List Rc} (h : CrAt W B v L) (hG : G W W') : CrAt W' B v L := ⟨own_G h.1 hG, fun y hy => own_G (h.2 y hy) hG⟩
theorem CoAt.keep {W W' : World} {B : Nat} {v : Value} {L : List Po} (h : CoAt W B v L) (hG : G W W') : CoAt W' B v L := ⟨own_G h.1 hG, fun y hy => own_G (h.2 y hy) hG⟩
theorem info42 : (Tryz.prog.info? 42).map (fun i => (i.zero, i.size, i.bytes)) = some (some (.agg #[.int .i64 0, .int .i64 0, .int .i64 0, .slice none 0 0, .int .i64 0, .bool false]), 6, 64) := by kernel_rfl
theorem res24 (tmps : Array Value) (w : World) (g : Nat) (a0 a1 a2 : Option Addr) (k0 k1 k2 c0' c1' c2' : Nat) (h : tmps.getD 2 undef = .pointer (some ⟨g, 0, none⟩)) (hB : Blk w g 26 #[.slice a0 k0 c0', .slice a1 k1 c1', .slice a2 k2 c2']) :
    (results Tryz.f24 tmps).run Tryz.prog w = .ok (.agg #[.slice a0 k0 c0', .slice a1 k1 c1', .slice a2 k2 c2']) w := by
  have c0 := hB.cell 0
  have c1 := hB.cell 1
  have c2 := hB.cell 2
  clear hB
  have hr : Tryz.f24.results = #[.cell 2 26] := rfl
  have h' : tmps[2]?.getD undef = .pointer (some ⟨g, 0, none⟩) := by simpa using h
  simp only [results, hr]
  go_simp
set_option maxRecDepth 100000 in
set_option maxHeartbeats 8000000 in
theorem Copy_any (r : Ra) (w : World) (h : r.At w) (hn : r.Nil) : Calls Tryz.prog 24 #[.agg r.v] w (CpPost r w) := by
  have HP : Hid (∀ o w', CpIs w' w.heap.size r o → G w w' → CpPost r w (.returned (.agg o.v)) w') := fun o w' a b => ⟨b, o, rfl, a⟩
  generalize CpPost r w = PP at *
  have hrv : r.v = #[.slice r.ra r.racers.length r.rc, .slice r.pa r.pools.length r.pc, .slice r.ta r.protests.length r.tc] := rfl
  rw [hrv]
  have HAT := Lib.hid h
  have HNI := Lib.hid hn
  have htn := hn.1
  have htl := h.nt
  have HTT := Lib.hid (fun (W : World) (hW : G w W) => (h.keep hW).ts)
  have hnr := h.nr
  have hnp := h.np
  clear h hn hrv
  have g0 : G w (((w.alloc (.cells #[.slice r.ra r.racers.length r.rc, .slice r.pa r.pools.length r.pc, .slice r.ta r.protests.length r.tc] 26)).alloc (.cells #[.slice none 0 0, .slice none 0 0, .slice none 0 0] 26)).alloc (.cells #[] 3)) := (((G.rf _).a _).a _).a _
  have b0 : Blk (((w.alloc (.cells #[.slice r.ra r.racers.length r.rc, .slice r.pa r.pools.length r.pc, .slice r.ta r.protests.length r.tc] 26)).alloc (.cells #[.slice none 0 0, .slice none 0 0, .slice none 0 0] 26)).alloc (.cells #[] 3)) w.heap.size 26 #[.slice r.ra r.racers.length r.rc, .slice r.pa r.pools.length r.pc, .slice r.ta r.protests.length r.tc] := ((Blk.new _ _ _).alloc _).alloc _
  have b1 : Blk (((w.alloc (.cells #[.slice r.ra r.racers.length r.rc, .slice r.pa r.pools.length r.pc, .slice r.ta r.protests.length r.tc] 26)).alloc (.cells #[.slice none 0 0, .slice none 0 0, .slice none 0 0] 26)).alloc (.cells #[] 3)) (w.heap.size + 1) 26 #[.slice none 0 0, .slice none 0 0, .slice none 0 0] := (Blk.new1 _ _ _ _).alloc _
  have b2 := own_empty (Blk.new2 w (.cells #[.slice r.ra r.racers.length r.rc, .slice r.pa r.pools.length r.pc, .slice r.ta r.protests.length r.tc] 26) (.cells #[.slice none 0 0, .slice none 0 0, .slice none 0 0] 26) 3 #[]) 1
  go_enter Tryz.func24, Tryz.ntmps24
  go_wp2_with (at_builtin; refine wpList_append_ints rfl _ _ rfl (w.heap.size + 1 + 1) _ rfl b2 r.ta r.protests r.tc rfl (HTT.out _ g0) htn htl ?_ ?_)
  · simp only [World.alloc, Array.size_push]
    omega
  intro v1 w1 hown1 hg1
  rw [show (Value.slice (some ⟨w.heap.size + 1 + 1, 0, none⟩) 0 0).ownBlock = some (w.heap.size + 1 + 1) from rfl] at hg1
  replace b0 := b0.grown hg1 (fun e => by injection e with e; omega)
  replace b1 := b1.grown hg1 (fun e => by injection e with e; omega)
  have f1 : Fr (fun _ => False) w w1 := (G.fr g0).grown hg1 (fun g e => .inr (by injection e with e; omega))
  replace g0 : G w w1 := f1.toG (fun _ _ h => h)
  obtain ⟨ka, kc, rfl⟩ := own_slice hown1
  clear f1 hg1 b2
  have m0 := b0.cell 0
  have m1 := b0.cell 1
  have m2 := b0.cell 2
  have l0 := b0.lt
  go_upto_region 2 with fail
  have g1 : G w (w1.alloc (.cells #[.slice none 0 0, .slice none 0 0, .slice ka r.protests.length kc] 26)) := g0.a _
  have b01 := b0.alloc (.cells #[.slice none 0 0, .slice none 0 0, .slice ka r.protests.length kc] 26)
  have b11 := b1.alloc (.cells #[.slice none 0 0, .slice none 0 0, .slice ka r.protests.length kc] 26)
  have bN : Blk (w1.alloc (.cells #[.slice none 0 0, .slice none 0 0, .slice ka r.protests.length kc] 26)) w1.heap.size 26 #[.slice none 0 0, .slice none 0 0, .slice ka r.protests.length kc] := Blk.new _ _ _
  have HT1 := Lib.hid (own_G hown1 ((G.rf w1).a (.cells #[.slice none 0 0, .slice none 0 0, .slice ka r.protests.length kc] 26)))
  have hs1 : (w1.alloc (.cells #[.slice none 0 0, .slice none 0 0, .slice ka r.protests.length kc] 26)).heap.size = w1.heap.size + 1 := World.size_alloc _ _
  have hw1 : w.heap.size + 1 < w1.heap.size := b1.lt
  clear m0 m1 m2 l0 hown1 b0 b1 g0
  obtain ⟨N, hN⟩ : ∃ N, N = w1.heap.size := ⟨_, rfl⟩
  change Code.wp _ _ _ _ (w1.alloc (.cells #[.slice none 0 0, .slice none 0 0, .slice ka r.protests.length kc] 26))
  rw [← hN] at bN hs1 hw1 ⊢
  clear hN
  generalize w1.alloc (.cells #[.slice none 0 0, .slice none 0 0, .slice ka r.protests.length kc] 26) = W1 at *
  have HS1 := Lib.hid hs1
  have HB0 := Lib.hid b01
  have HB1 := Lib.hid b11
  clear hs1
  have hrow := HAT.out.rs.row
  have HROW := Lib.hid hrow
  clear hrow b01 b11
  go_wp2_with fail
  go_loopw [4] (fun i wr => ∃ (k : Nat) (v : Value) (L : List Rc), k ≤ r.racers.length ∧ i = .int .i64 k ∧ Hid (Blk wr N 26 #[v, .slice none 0 0, .slice ka r.protests.length kc]) ∧ Hid (CrAt wr (N + 1) v L) ∧ Hid (L.map rcP = (r.racers.take k).map rcP) ∧ L.length ≤ k ∧ Hid (wr.ownsRow (w.heap.size + 1 + 1) 3 1 (.slice ka r.protests.length kc) r.protests.length (iv r.protests)) ∧ Hid (Fr (fun i => i = N) W1 wr)) (fun i _ => r.racers.length - (intOf i).toNat)
  case atStart => exact ⟨0, .slice none 0 0, [], Nat.zero_le _, rfl, bN, ⟨World.ownsRow_nil _ _ _ _, fun y hy => by simp at hy⟩, by simp [Hid], Nat.le_refl _, HT1, Fr.rf _ _⟩
  case round =>
    clear bN
    obtain ⟨k, v, L, hk, rfl, HBN, HCA, HLL, hLk, HTR, HFR⟩ := hrel
    obtain ⟨wo, rfl⟩ : ∃ wo, wo = wr := ⟨_, rfl⟩
    have gwo : G w wo := ((G.fr (R := fun _ => False) g1).t2 HFR.out (fun i hi e => by omega)).toG (fun _ _ h => h)
    have hszo : N + 1 ≤ wo.heap.size := by have := HFR.out.size; have := HS1.out; omega
    have bo := HFR.out.blk HB0.out (by omega)
    have m0 := bo.cell 0
    have l0 := bo.lt
    by_cases hlt : k < r.racers.length
    · have hki : (k : Int) < r.racers.length := by omega
      have hrow2 := HROW.out.below gwo
      rcases hrow2 with hx | ⟨gr, ofr, hre, hgr, hcell⟩
      · omega
      rw [hre] at m0
      have m0' : wo.cell? ⟨w.heap.size, 0, none⟩ = some (.slice (some ⟨gr, ofr, none⟩) r.racers.length r.rc) := m0
      have hcl := hcell k hlt
      have hyi := (HAT.out.keep gwo).rs.pools k hlt
      have hyn := HNI.out.2.1 k hlt
      have hyl := HAT.out.nq k hlt
      have HTK := Lib.hid (show (r.racers.take (k + 1)).map rcP = (r.racers.take k).map rcP ++ [rcP (r.racers.getD k default)] by
        rw [List.take_add_one, List.getElem?_eq_getElem hlt, List.map_append, List.getD_eq_getElem?_getD, List.getElem?_eq_getElem hlt]
        rfl)
      obtain ⟨y, hy⟩ : ∃ y, y = r.racers.getD k default := ⟨_, rfl⟩
      rw [← hy] at hcl hyi hyn hyl HTK
      clear hy hcell m0 hre
      obtain ⟨zbird, zowner, zrank, zday, zpa, zpc, zpools⟩ := y
      unfold Rc.v at hcl
      dsimp only at hyi hyn hyl
      have HYI := Lib.hid hyi
      have HYN := Lib.hid hyn
      have q0 : wo.cell? ⟨gr, ofr + k * 5, none⟩ = some (.int .i64 zbird) := hcl 0 (by omega)
      have q1 : wo.cell? ⟨gr, ofr + k * 5 + 1, none⟩ = some (.int .i64 zowner) := hcl 1 (by omega)
      have q2 : wo.cell? ⟨gr, ofr + k * 5 + 2, none⟩ = some (.int .i64 zrank) := hcl 2 (by omega)
      have q3 : wo.cell? ⟨gr, ofr + k * 5 + 3, none⟩ = some (.int .i64 zday) := hcl 3 (by omega)
      have q4 : wo.cell? ⟨gr, ofr + k * 5 + 4, none⟩ = some (.slice zpa zpools.length zpc) := hcl 4 (by omega)
      clear hcl hyi hyn
      go_upto_region 6 with fail
      have ga : G wo (wo.alloc (.cells #[.int .i64 zbird, .int .i64 zowner, .int .i64 zrank, .int .i64 zday, .slice zpa zpools.length zpc] 60)) := (G.rf wo).a _
      have bx : Blk (wo.alloc (.cells #[.int .i64 zbird, .int .i64 zowner, .int .i64 zrank, .int .i64 zday, .slice zpa zpools.length zpc] 60)) wo.heap.size 60 #[.int .i64 zbird, .int .i64 zowner, .int .i64 zrank, .int .i64 zday, .slice zpa zpools.length zpc] := Blk.new _ _ _
      clear q0 q1 q2 q3 q4 m0' l0 hgr
      obtain ⟨gx, hgx2⟩ : ∃ gx, gx = wo.heap.size := ⟨_, rfl⟩
      change Code.wp _ _ _ _ (wo.alloc (.cells #[.int .i64 zbird, .int .i64 zowner, .int .i64 zrank, .int .i64 zday, .slice zpa zpools.length zpc] 60))
      rw [← hgx2] at bx ⊢
      have hgx3 : wo.heap.size ≤ gx := Nat.le_of_eq hgx2.symm
      have hs4 : (wo.alloc (.cells #[.int .i64 zbird, .int .i64 zowner, .int .i64 zrank, .int .i64 zday, .slice zpa zpools.length zpc] 60)).heap.size = gx + 1 := by rw [hgx2, World.size_alloc]
      clear hgx2
      generalize wo.alloc (.cells #[.int .i64 zbird, .int .i64 zowner, .int .i64 zrank, .int .i64 zday, .slice zpa zpools.length zpc] 60) = w4 at *
      have n4 := bx.cell 4
      have ln := bx.lt
      have hE : (w4.alloc (.cells #[] 3)).ownsRow w4.heap.size 3 1 (.slice (some ⟨w4.heap.size, 0, none⟩) 0 0) 0 [] := own_empty (Blk.new w4 3 #[]) 1
      have HS4 := Lib.hid hs4
      clear hs4
      go_wp2_with (at_builtin; refine wpList_append_ints rfl _ _ rfl w4.heap.size _ rfl hE zpa zpools zpc rfl (HYI.out.below (ga.a _)) HYN.out hyl ?hb6 ?hr6)
      case hb6 => simp only [World.alloc, Array.size_push]; omega
      case hr6 =>
        intro v5 w5 hown5 hg5
        rw [show (Value.slice (some ⟨w4.heap.size, 0, none⟩) 0 0).ownBlock = some w4.heap.size from rfl] at hg5
        have bx5 := (bx.alloc (.cells #[] 3)).grown hg5 (fun e => by injection e with e; omega)
        have f5 : Fr (fun _ => False) w4 w5 := ((G.rf w4).a (.cells #[] 3)).fr.grown hg5 (fun g e => .inr (by injection e with e; omega))
        have g45 : G w4 w5 := f5.toG (fun _ _ h => h)
        obtain ⟨na, nc, rfl⟩ := own_slice hown5
        have hw4 : gx < w4.heap.size := ln
        clear n4 ln f5 hg5 hE
        have n4 := bx5.cell 4
        have z4 := bx5.frozen 4
        have ln := bx5.lt
        go_upto_region 7 with fail
        have g6 : G wo (w5.setCell ⟨gx, 4, none⟩ (.slice na zpools.length nc)) := (ga.t g45).s (p := ⟨gx, 4, none⟩) hgx3 _
        have bx6 : Blk (w5.setCell ⟨gx, 4, none⟩ (.slice na zpools.length nc)) gx 60 #[.int .i64 zbird, .int .i64 zowner, .int .i64 zrank, .int .i64 zday, .slice na zpools.length nc] := by
          have b := bx5.set_ 4 (.slice na zpools.length nc)
          simp only [List.setIfInBounds_toArray, List.set_cons_zero, List.set_cons_succ] at b
          exact b
        have HW6 := Lib.hid (own_weaken (hown5.kept (grownBy_set _ ⟨gx, 4, none⟩ (.slice na zpools.length nc)) (.inr (own_ne hown5 bx5 (by decide)).symm)) (base' := N + 1) (by omega))
        clear n4 z4 ln bx5 g45 hown5 bx
        generalize w5.setCell ⟨gx, 4, none⟩ (.slice na zpools.length nc) = w6 at *
        have HC6 := Lib.hid (HCA.out.keep g6)
        have HB6 := Lib.hid (HBN.out.keep g6)
        have HT6 := Lib.hid (own_G HTR.out g6)
        have m0 := HB6.out.cell 0
        have l0 := HB6.out.lt
        have n0 := bx6.cell 0
        have n1 := bx6.cell 1
        have n2 := bx6.cell 2
        have n3 := bx6.cell 3
        have n4 := bx6.cell 4
        have ln := bx6.lt
        have hgx4 : N + 1 ≤ w6.heap.size := by have := g6.size; omega
        have HGX := Lib.hid hgx4
        clear hgx4
        obtain ⟨i0, hi0, hz0, hz1, hz2⟩ := info_parts info60
        go_wp2_with (at_builtin; refine wpList_append_own _ rfl _ _ 22 rfl (N + 1) 60 i0 (.agg #[.int .i64 0, .int .i64 0, .int .i64 0, .int .i64 0, .slice none 0 0]) 5 56 Tryz.underlying22 hi0 hz0 hz1 hz2 rfl (by decide) _ L.length (rcV L) rfl ?hown ⟨_, 0, none⟩ 1 1 [.int .i64 zbird, .int .i64 zowner, .int .i64 zrank, .int .i64 zday, .slice na zpools.length nc] rfl rfl (cell_new5 _ _ _) (by simp [Value.oneCell']) (by unfold maxLen; omega) (by omega) ?hbase ?hrest)
        case hown => exact own_G HC6.out.1 ((G.rf _).a _)
        case hbase => have := HGX.out; simp only [World.alloc, Array.size_push]; omega
        case hrest =>
          intro v9 w9 hown9 hg9 _
          obtain ⟨va9, vc9, rfl⟩ := own_slice hown9
          have ga9 : G w6 (w6.alloc (.cells #[.int .i64 zbird, .int .i64 zowner, .int .i64 zrank, .int .i64 zday, .slice na zpools.length nc] 60)) := (G.rf w6).a _
          have ho3 := own_G HC6.out.1 ga9
          have HB9 := Lib.hid ((HB6.out.keep ga9).grown hg9 (own_ne ho3 (HB6.out.keep ga9) (by decide)))
          have HF9 := Lib.hid ((HFR.out.g (g6.t ga9)).grown hg9 (fun g hg => .inr (by have := own_ge ho3 g hg; have := HS1.out; omega)))
          have HK9 : Hid (∀ B v n xs, w6.ownsRow B 3 1 v n xs → w9.ownsRow B 3 1 v n xs) := fun B v n xs hb => (own_G hb ga9).kept hg9 (own_own (own_G hb ga9) ho3 (by decide))
          have HN9 := Lib.hid hown9
          clear hown9 hg9 ho3 n0 n1 n2 n3 n4 ln m0 l0
          have m0 := HB9.out.cell 0
          have lf := HB9.out.lt
          have fz := HB9.out.frozen 0
          go_wp2
          go_roundw
          case rel =>
            have hst : ∀ B v n xs, w9.ownsRow B 3 1 v n xs → (w9.setCell ⟨N, 0, none⟩ (.slice va9 (L.length + 1) vc9)).ownsRow B 3 1 v n xs := fun B v n xs hb => hb.kept (grownBy_set _ _ _) (.inr (own_ne hb HB9.out (by decide)).symm)
            exact ⟨k + 1, .slice va9 (L.length + 1) vc9, L ++ [⟨zbird, zowner, zrank, zday, na, nc, zpools⟩], by omega, by go_num, by
              have b := HB9.out.set_ 0 (.slice va9 (L.length + 1) vc9)
              simp only [List.setIfInBounds_toArray, List.set_cons_zero, List.set_cons_succ] at b
              exact b, ⟨by
              rw [List.length_append, rcV_snoc]
              exact HN9.out.kept (grownBy_set _ _ _) (.inr (own_ne HN9.out HB9.out (by decide)).symm), fun y hy => by
              rcases List.mem_append.1 hy with h | h
              · exact hst _ _ _ _ (HK9.out _ _ _ _ (HC6.out.2 y h))
              · obtain rfl : y = _ := List.mem_singleton.1 h
                exact hst _ _ _ _ (HK9.out _ _ _ _ HW6.out)⟩, by
              show _ = _
              rw [HTK.out, List.map_append, HLL.out]
              rfl, by rw [List.length_append]; exact Nat.add_le_add hLk (Nat.le_refl 1), hst _ _ _ _ (HK9.out _ _ _ _ HT6.out), HF9.out.s (p := ⟨N, 0, none⟩) (.inl rfl) _⟩
          case measure => simp [intOf] <;> omega
    · obtain rfl : k = r.racers.length := by omega
      have hki : ¬ ((r.racers.length : Nat) : Int) < r.racers.length := by omega
      have hLL : L.map rcP = r.racers.map rcP := by have := HLL.out; rwa [List.take_length] at this
      have HLE := Lib.hid hLL
      obtain ⟨ra, rc, rfl⟩ := own_slice HCA.out.1
      have HB1o := Lib.hid (HFR.out.blk HB1.out (by omega))
      have HB0o := Lib.hid bo
      have hmN : wo.cell? ⟨N, 0, none⟩ = some (.slice ra L.length rc) := HBN.out.cell 0
      clear hLL HLL hmN
      go_wp2_with fail
      clear m0 l0 bo
      go_loopw [6] (fun i wr => ∃ (k : Nat) (v : Value) (M : List Po), k ≤ r.pools.length ∧ i = .int .i64 k ∧ Hid (Blk wr N 26 #[.slice ra L.length rc, v, .slice ka r.protests.length kc]) ∧ Hid (CoAt wr (N + 1) v M) ∧ Hid (M.map poP = (r.pools.take k).map poP) ∧ M.length ≤ k ∧ Hid (wr.ownsRow (w.heap.size + 1 + 1) 3 1 (.slice ka r.protests.length kc) r.protests.length (iv r.protests) ∧ CrAt wr (N + 1) (.slice ra L.length rc) L) ∧ Hid (Fr (fun i => i = N) W1 wr)) (fun i _ => r.pools.length - (intOf i).toNat)
      case atStart => exact ⟨0, .slice none 0 0, [], Nat.zero_le _, rfl, HBN.out, ⟨World.ownsRow_nil _ _ _ _, fun y hy => by simp at hy⟩, by simp [Hid], Nat.le_refl _, ⟨HTR.out, HCA.out⟩, HFR.out⟩
      case round =>
        obtain ⟨k, v, M, hk2, rfl, HBM, HCO, HMM, hMk, HKS, HFS⟩ := hrel
        obtain ⟨wu, rfl⟩ : ∃ wu, wu = wr := ⟨_, rfl⟩
        have gwu : G w wu := ((G.fr (R := fun _ => False) g1).t2 HFS.out (fun i hi e => by omega)).toG (fun _ _ h => h)
        have hszu : N + 1 ≤ wu.heap.size := by have := HFS.out.size; have := HS1.out; omega
        have bu := HFS.out.blk HB0.out (by omega)
        have m1 := bu.cell 1
        have l0 := bu.lt
        by_cases hlt : k < r.pools.length
        · have hki2 : (k : Int) < r.pools.length := by omega
          have hrow2 := (HAT.out.keep gwu).ps.row
          rcases hrow2 with hx | ⟨gr, ofr, hre, hgr, hcell⟩
          · omega
          rw [hre] at m1
          have m1' : wu.cell? ⟨w.heap.size, 1, none⟩ = some (.slice (some ⟨gr, ofr, none⟩) r.pools.length r.pc) := m1
          have hcl := hcell k hlt
          have hyi := (HAT.out.keep gwu).ps.tables k hlt
          have hyn := HNI.out.2.2 k hlt
          have hyl := HAT.out.nb k hlt
          have HTK := Lib.hid (show (r.pools.take (k + 1)).map poP = (r.pools.take k).map poP ++ [poP (r.pools.getD k default)] by
            rw [List.take_add_one, List.getElem?_eq_getElem hlt, List.map_append, List.getD_eq_getElem?_getD, List.getElem?_eq_getElem hlt]
            rfl)
          obtain ⟨y, hy⟩ : ∃ y, y = r.pools.getD k default := ⟨_, rfl⟩
          rw [← hy] at hcl hyi hyn hyl HTK
          clear hy hcell m1 hre
          obtain ⟨ystake, ycut, ykind, yta, ytc, ytable, yquota, yfirst⟩ := y
          unfold Po.v at hcl
          dsimp only at hyi hyn hyl
          have HYI := Lib.hid hyi
          have HYN := Lib.hid hyn
          have q0 : wu.cell? ⟨gr, ofr + k * 6, none⟩ = some (.int .i64 ystake) := hcl 0 (by omega)
          have q1 : wu.cell? ⟨gr, ofr + k * 6 + 1, none⟩ = some (.int .i64 ycut) := hcl 1 (by omega)
          have q2 : wu.cell? ⟨gr, ofr + k * 6 + 2, none⟩ = some (.int .i64 ykind) := hcl 2 (by omega)
          have q3 : wu.cell? ⟨gr, ofr + k * 6 + 3, none⟩ = some (.slice yta ytable.length ytc) := hcl 3 (by omega)
          have q4 : wu.cell? ⟨gr, ofr + k * 6 + 4, none⟩ = some (.int .i64 yquota) := hcl 4 (by omega)
          have q5 : wu.cell? ⟨gr, ofr + k * 6 + 5, none⟩ = some (.bool yfirst) := hcl 5 (by omega)
          clear hcl hyi hyn
          go_upto_region 12 with fail
          have ga : G wu (wu.alloc (.cells #[.int .i64 ystake, .int .i64 ycut, .int .i64 ykind, .slice yta ytable.length ytc, .int .i64 yquota, .bool yfirst] 42)) := (G.rf wu).a _
          have bx : Blk (wu.alloc (.cells #[.int .i64 ystake, .int .i64 ycut, .int .i64 ykind, .slice yta ytable.length ytc, .int .i64 yquota, .bool yfirst] 42)) wu.heap.size 42 #[.int .i64 ystake, .int .i64 ycut, .int .i64 ykind, .slice yta ytable.length ytc, .int .i64 yquota, .bool yfirst] := Blk.new _ _ _
          clear q0 q1 q2 q3 q4 q5 m1' l0 hgr
          obtain ⟨gx, hgx2⟩ : ∃ gx, gx = wu.heap.size := ⟨_, rfl⟩
          change Code.wp _ _ _ _ (wu.alloc (.cells #[.int .i64 ystake, .int .i64 ycut, .int .i64 ykind, .slice yta ytable.length ytc, .int .i64 yquota, .bool yfirst] 42))
          rw [← hgx2] at bx ⊢
          have hgx3 : wu.heap.size ≤ gx := Nat.le_of_eq hgx2.symm
          clear hgx2
          generalize wu.alloc (.cells #[.int .i64 ystake, .int .i64 ycut, .int .i64 ykind, .slice yta ytable.length ytc, .int .i64 yquota, .bool yfirst] 42) = w4 at *
          have n3 := bx.cell 3
          have ln := bx.lt
          have hE : (w4.alloc (.cells #[] 3)).ownsRow w4.heap.size 3 1 (.slice (some ⟨w4.heap.size, 0, none⟩) 0 0) 0 [] := own_empty (Blk.new w4 3 #[]) 1
          go_wp2_with (at_builtin; refine wpList_append_ints rfl _ _ rfl w4.heap.size _ rfl hE yta ytable ytc rfl (HYI.out.below (ga.a _)) HYN.out hyl ?hb6 ?hr6)
          case hb6 => simp only [World.alloc, Array.size_push]; omega
          case hr6 =>
            intro v5 w5 hown5 hg5
            rw [show (Value.slice (some ⟨w4.heap.size, 0, none⟩) 0 0).ownBlock = some w4.heap.size from rfl] at hg5
            have bx5 := (bx.alloc (.cells #[] 3)).grown hg5 (fun e => by injection e with e; omega)
            have f5 : Fr (fun _ => False) w4 w5 := ((G.rf w4).a (.cells #[] 3)).fr.grown hg5 (fun g e => .inr (by injection e with e; omega))
            have g45 : G w4 w5 := f5.toG (fun _ _ h => h)
            obtain ⟨na, nc, rfl⟩ := own_slice hown5
            have hw4 : gx < w4.heap.size := ln
            clear n3 ln f5 hg5 hE
            have n3 := bx5.cell 3
            have z3 := bx5.frozen 3
            have ln := bx5.lt
            go_upto_region 13 with fail
            have g6 : G wu (w5.setCell ⟨gx, 3, none⟩ (.slice na ytable.length nc)) := (ga.t g45).s (p := ⟨gx, 3, none⟩) hgx3 _
            have bx6 : Blk (w5.setCell ⟨gx, 3, none⟩ (.slice na ytable.length nc)) gx 42 #[.int .i64 ystake, .int .i64 ycut, .int .i64 ykind, .slice na ytable.length nc, .int .i64 yquota, .bool yfirst] := by
              have b := bx5.set_ 3 (.slice na ytable.length nc)
              simp only [List.setIfInBounds_toArray, List.set_cons_zero, List.set_cons_succ] at b
              exact b
            have HW6 := Lib.hid (own_weaken (hown5.kept (grownBy_set _ ⟨gx, 3, none⟩ (.slice na ytable.length nc)) (.inr (own_ne hown5 bx5 (by decide)).symm)) (base' := N + 1) (by omega))
            clear n3 z3 ln bx5 g45 hown5 bx
            generalize w5.setCell ⟨gx, 3, none⟩ (.slice na ytable.length nc) = w6 at *
            have HC6 := Lib.hid (HCO.out.keep g6)
            have HB6 := Lib.hid (HBM.out.keep g6)
            have HT6 := Lib.hid (And.intro (own_G HKS.out.1 g6) (HKS.out.2.keep g6))
            have m1 := HB6.out.cell 1
            have l0 := HB6.out.lt
            have n0 := bx6.cell 0
            have n1 := bx6.cell 1
            have n2 := bx6.cell 2
            have n3 := bx6.cell 3
            have n4 := bx6.cell 4
            have n5 := bx6.cell 5
            have ln := bx6.lt
            have hgx4 : N + 1 ≤ w6.heap.size := by have := g6.size; omega
            have HGX := Lib.hid hgx4
            clear hgx4
            obtain ⟨i0, hi0, hz0, hz1, hz2⟩ := info_parts info42
            go_wp2_with (at_builtin; refine wpList_append_own _ rfl _ _ 23 rfl (N + 1) 42 i0 (.agg #[.int .i64 0, .int .i64 0, .int .i64 0, .slice none 0 0, .int .i64 0, .bool false]) 6 64 Tryz.underlying23 hi0 hz0 hz1 hz2 rfl (by decide) _ M.length (cv Po.v M) rfl ?hown ⟨_, 0, none⟩ 1 1 [.int .i64 ystake, .int .i64 ycut, .int .i64 ykind, .slice na ytable.length nc, .int .i64 yquota, .bool yfirst] rfl rfl (cell_new5 _ _ _) (by simp [Value.oneCell']) (by unfold maxLen; omega) (by omega) ?hbase ?hrest)
            case hown => exact own_G HC6.out.1 ((G.rf _).a _)
            case hbase => have := HGX.out; simp only [World.alloc, Array.size_push]; omega
            case hrest =>
              intro v9 w9 hown9 hg9 _
              obtain ⟨va9, vc9, rfl⟩ := own_slice hown9
              have ga9 : G w6 (w6.alloc (.cells #[.int .i64 ystake, .int .i64 ycut, .int .i64 ykind, .slice na ytable.length nc, .int .i64 yquota, .bool yfirst] 42)) := (G.rf w6).a _
              have ho3 := own_G HC6.out.1 ga9
              have HB9 := Lib.hid ((HB6.out.keep ga9).grown hg9 (own_ne ho3 (HB6.out.keep ga9) (by decide)))
              have HF9 := Lib.hid ((HFS.out.g (g6.t ga9)).grown hg9 (fun g hg => .inr (by have := own_ge ho3 g hg; have := HS1.out; omega)))
              have HK9 : Hid (∀ T z B v n xs, T ≠ 42 → w6.ownsRow B T z v n xs → w9.ownsRow B T z v n xs) := fun T z B v n xs hT hb => (own_G hb ga9).kept hg9 (own_own (own_G hb ga9) ho3 hT)
              have HN9 := Lib.hid hown9
              clear hown9 hg9 ho3 n0 n1 n2 n3 n4 n5 ln m1 l0
              have m1 := HB9.out.cell 1
              have lf := HB9.out.lt
              have fz := HB9.out.frozen 1
              go_wp2
              go_roundw
              case rel =>
                have hst : ∀ T z B v n xs, (26 : Nat) ≠ T → w9.ownsRow B T z v n xs → (w9.setCell ⟨N, 1, none⟩ (.slice va9 (M.length + 1) vc9)).ownsRow B T z v n xs := fun T z B v n xs hT hb => hb.kept (grownBy_set _ _ _) (.inr (own_ne hb HB9.out hT).symm)
                exact ⟨k + 1, .slice va9 (M.length + 1) vc9, M ++ [⟨ystake, ycut, ykind, na, nc, ytable, yquota, yfirst⟩], by omega, by go_num, by
                  have b := HB9.out.set_ 1 (.slice va9 (M.length + 1) vc9)
                  simp only [List.setIfInBounds_toArray, List.set_cons_zero, List.set_cons_succ] at b
                  exact b, ⟨by
                  rw [List.length_append, cv_snoc]
                  exact HN9.out.kept (grownBy_set _ _ _) (.inr (own_ne HN9.out HB9.out (by decide)).symm), fun y hy => by
                  rcases List.mem_append.1 hy with h | h
                  · exact hst _ _ _ _ _ _ (by decide) (HK9.out _ _ _ _ _ _ (by decide) (HC6.out.2 y h))
                  · obtain rfl : y = _ := List.mem_singleton.1 h
                    exact hst _ _ _ _ _ _ (by decide) (HK9.out _ _ _ _ _ _ (by decide) HW6.out)⟩, by
                  show _ = _
                  rw [HTK.out, List.map_append, HMM.out]
                  rfl, by rw [List.length_append]; exact Nat.add_le_add hMk (Nat.le_refl 1), ⟨hst _ _ _ _ _ _ (by decide) (HK9.out _ _ _ _ _ _ (by decide) HT6.out.1), hst _ _ _ _ _ _ (by decide) (HK9.out _ _ _ _ _ _ (by decide) HT6.out.2.1), fun y hy => hst _ _ _ _ _ _ (by decide) (HK9.out _ _ _ _ _ _ (by decide) (HT6.out.2.2 y hy))⟩, HF9.out.s (p := ⟨N, 1, none⟩) (.inl rfl) _⟩
              case measure => simp [intOf] <;> omega
        · obtain rfl : k = r.pools.length := by omega
          have hki2 : ¬ ((r.pools.length : Nat) : Int) < r.pools.length := by omega
          have hMM : M.map poP = r.pools.map poP := by have := HMM.out; rwa [List.take_length] at this
          have HME := Lib.hid hMM
          obtain ⟨pa, pc, rfl⟩ := own_slice HCO.out.1
          have bR := HFS.out.blk HB1.out (by omega)
          clear hMM HMM
          have e0 := HBM.out.cell 0
          have e1 := HBM.out.cell 1
          have e2 := HBM.out.cell 2
          have le := HBM.out.lt
          have r0 := bR.cell 0
          have r1 := bR.cell 1
          have r2 := bR.cell 2
          have z0 := bR.frozen 0
          have z1 := bR.frozen 1
          have z2 := bR.frozen 2
          have lr := bR.lt
          go_wp2_with fail
          have hst : ∀ (o : Nat) (u : Value) (cs : Array Value) T z B v n xs (X : World), (26 : Nat) ≠ T → Blk X (w.heap.size + 1) 26 cs → X.ownsRow B T z v n xs → (X.setCell ⟨w.heap.size + 1, o, none⟩ u).ownsRow B T z v n xs := fun o u cs T z B v n xs X hT hX hb => hb.kept (grownBy_set _ _ _) (.inr (own_ne hb hX hT).symm)
          have bR1 := bR.set_ 0 (.slice ra L.length rc)
          have bR2 := bR1.set_ 1 (.slice pa M.length pc)
          have hs3 : ∀ T z B v n xs, (26 : Nat) ≠ T → wu.ownsRow B T z v n xs → (((wu.setCell ⟨w.heap.size + 1, 0, none⟩ (.slice ra L.length rc)).setCell ⟨w.heap.size + 1, 1, none⟩ (.slice pa M.length pc)).setCell ⟨w.heap.size + 1, 2, none⟩ (.slice ka r.protests.length kc)).ownsRow B T z v n xs := fun T z B v n xs hT hb => hst 2 _ _ _ _ _ _ _ _ _ hT bR2 (hst 1 _ _ _ _ _ _ _ _ _ hT bR1 (hst 0 _ _ _ _ _ _ _ _ _ hT bR hb))
          have HF := Lib.hid (HP.out ⟨ra, rc, L, pa, pc, M, ka, kc, r.protests⟩ (((wu.setCell ⟨w.heap.size + 1, 0, none⟩ (.slice ra L.length rc)).setCell ⟨w.heap.size + 1, 1, none⟩ (.slice pa M.length pc)).setCell ⟨w.heap.size + 1, 2, none⟩ (.slice ka r.protests.length kc)) ⟨own_weaken (hs3 _ _ _ _ _ _ (by decide) HKS.out.2.1) (by omega), fun y hy => own_weaken (hs3 _ _ _ _ _ _ (by decide) (HKS.out.2.2 y hy)) (by omega), own_weaken (hs3 _ _ _ _ _ _ (by decide) HCO.out.1) (by omega), fun y hy => own_weaken (hs3 _ _ _ _ _ _ (by decide) (HCO.out.2 y hy)) (by omega), own_weaken (hs3 _ _ _ _ _ _ (by decide) HKS.out.1) (by omega), HLE.out, HME.out, rfl⟩ (((gwu.s (p := ⟨w.heap.size + 1, 0, none⟩) (Nat.le_succ _) _).s (p := ⟨w.heap.size + 1, 1, none⟩) (Nat.le_succ _) _).s (p := ⟨w.heap.size + 1, 2, none⟩) (Nat.le_succ _) _))
          have bR3 := bR2.set_ 2 (.slice ka r.protests.length kc)
          simp only [List.setIfInBounds_toArray, List.set_cons_zero, List.set_cons_succ] at bR3
          clear hst hs3 bR1 bR2
          refine bodyPost_ret (res24 _ _ (w.heap.size + 1) _ _ _ _ _ _ _ _ _ rfl bR3) rfl ?_
          exact HF.out
end Go.Proofs.YtnkmcoljijmgpaaGreat

set_option linter.unusedSimpArgs false
set_option linter.unusedVariables false
namespace Go.Proofs.YtnkmcoljijmgpaaGreat
open Go.RowKit Go.Shelf Go.Sort Go.Maps
attribute [local go_sem] Oper.semAt_some
/-- a fund whose table lies nowhere -/
def nrm (f : Fu) : Fu := { f with po := { f.po with ta := none, tc := 0 } }
theorem prizes_nrm (f : Fu) : prizesL (nrm f) = prizesL f := rfl
theorem pot_nrm (f : Fu) : potV (nrm f) = potV f := rfl
theorem won_nrm (f : Fu) (st : List Int) : wonL (nrm f) st = wonL f st := rfl
theorem KEq.of {f g : Fu} (hp : poP f.po = poP g.po) (hr : f.rs.map rcK = g.rs.map rcK) : KEq (nrm f) (nrm g) := by
  refine ⟨?_, hr⟩
  obtain ⟨⟨a0, a1, a2, a3, a4, a5, a6, a7⟩, b, c, d, e, k, l⟩ := f
  obtain ⟨⟨x0, x1, x2, x3, x4, x5, x6, x7⟩, y, z, u, v, s, t⟩ := g
  unfold poP at hp
  simp only [Prod.mk.injEq] at hp
  obtain ⟨rfl, rfl, rfl, rfl, rfl, rfl⟩ := hp
  rfl
theorem prizesP {f g : Fu} (hp : poP f.po = poP g.po) (hr : f.rs.map rcK = g.rs.map rcK) : prizesL f = prizesL g := by
  rw [← prizes_nrm f, ← prizes_nrm g]
  exact prizesK (KEq.of hp hr)
theorem potP {f g : Fu} (hp : poP f.po = poP g.po) (hr : f.rs.map rcK = g.rs.map rcK) : potV f = potV g := by
  rw [← pot_nrm f, ← pot_nrm g]
  exact potK (KEq.of hp hr)
theorem wonP {f g : Fu} (hp : poP f.po = poP g.po) (hr : f.rs.map rcK = g.rs.map rcK) (st : List Int) : wonL f st = wonL g st := by
  rw [← won_nrm f, ← won_nrm g]
  exact wonK (KEq.of hp hr) st
theorem canP {f g : Fu} (hp : poP f.po = poP g.po) (hr : f.rs.map rcK = g.rs.map rcK) (b : Int) (sts : List (List Int)) : canLo f b sts = canLo g b sts ∧ canHi f b sts = canHi g b sts := by
  have e : (fun st => wonL f st) = fun st => wonL g st := funext fun st => wonP hp hr st
  unfold canLo canHi
  simp only [wonP hp hr]
  exact ⟨trivial, trivial⟩
theorem find_map (q : Pu) (x : Int) : ∀ ps : List Pu, (ps.map fun p => if p.owner = q.owner then q else p).find? (fun p => p.owner == x) = if q.owner = x then (if ps.any (fun p => p.owner == x) = true then some q else none) else ps.find? fun p => p.owner == x
  | [] => by simp
  | a :: l => by
    have ih := find_map q x l
    rw [List.map_cons, List.find?_cons, ih, List.find?_cons, List.any_cons]
    by_cases h1 : a.owner = q.owner
    · rw [if_pos h1]
      by_cases h2 : q.owner = x
      · have h3 : (q.owner == x) = true := by simpa using h2
        have h4 : (a.owner == x) = true := by simp [h1, h2]
        rw [h3, h4, if_pos h2, Bool.true_or, if_pos rfl, if_pos h2]
      · have h3 : (q.owner == x) = false := by simpa using h2
        have h4 : (a.owner == x) = false := by simp [h1, h2]
        rw [h3, h4, if_neg h2]
        simp [h2]
    · rw [if_neg h1]
      by_cases h2 : q.owner = x
      · have h4 : (a.owner == x) = false := by
          simp only [beq_eq_false_iff_ne]
          exact fun e => h1 (e.trans h2.symm)
        rw [h4, if_pos h2]
        simp [h2]
      · rw [if_neg h2]
        cases h4 : (a.owner == x) <;> simp [h2]
theorem atP_put (ps : List Pu) (q : Pu) (x : Int) : atP (putP ps q) x = if q.owner = x then q else atP ps x := by
  unfold atP putP
  by_cases h : ps.any (fun p => p.owner == q.owner) = true
  · rw [if_pos h, find_map]
    by_cases h2 : q.owner = x
    · subst h2
      rw [if_pos rfl, if_pos h, if_pos rfl]
    · rw [if_neg h2, if_neg h2]
  · rw [if_neg h, List.find?_append]
    have h' : ps.any (fun p => p.owner == q.owner) = false := by simpa using h
    by_cases h2 : q.owner = x
    · subst h2
      have h3 : ps.find? (fun p => p.owner == q.owner) = none := by
        rw [List.find?_eq_none]
        intro y hy
        have := List.any_eq_false.1 h' y hy
        exact this
      rw [h3, if_pos rfl]
      simp
    · rw [if_neg h2]
      have h3 : (q.owner == x) = false := by simpa using h2
      cases h4 : ps.find? (fun p => p.owner == x) <;> simp [h3]
/-- two races of the same pools, whose birds run for the same pools, with the same owners, ranks, days -/
structure REq (r o : Ra) : Prop where
  ps : o.pools.map poP = r.pools.map poP
  pr : o.protests = r.protests
  rs : ∀ p : Int, (runners o p).map rcQ = (runners r p).map rcQ
  ow : ∀ x : Int, (o.racers.any fun y => y.owner == x) = r.racers.any fun y => y.owner == x
theorem REq.po {r o : Ra} (h : REq r o) (p : Int) : poP (poolAt o p) = poP (poolAt r p) := by
  have e := congrArg (fun m => m[p.toNat]?) h.ps
  simp only [List.getElem?_map] at e
  unfold poolAt
  rw [List.getD_eq_getElem?_getD, List.getD_eq_getElem?_getD]
  cases h1 : o.pools[p.toNat]? <;> cases h2 : r.pools[p.toNat]? <;> rw [h1, h2] at e <;> simp at e ⊢
  exact e
theorem REq.len {r o : Ra} (h : REq r o) : o.pools.length = r.pools.length := by
  have e := congrArg List.length h.ps
  simpa using e
theorem prizesE {r o : Ra} (h : REq r o) (p : Int) : prizesL (fuOf o p none 0) = prizesL (fuOf r p none 0) := prizesP (h.po p) (K_of_Q (h.rs p))
end Go.Proofs.YtnkmcoljijmgpaaGreat

set_option linter.unusedSimpArgs false
set_option linter.unusedVariables false
namespace Go.Proofs.YtnkmcoljijmgpaaGreat
open Go.RowKit Go.Shelf Go.Sort Go.Maps
attribute [local go_sem] Oper.semAt_some
theorem getD_setR {l : List Rc} {i j : Nat} {y : Rc} (hi : i < l.length) : (l.set i y).getD j default = if j = i then y else l.getD j default := by
  rw [List.getD_eq_getElem?_getD, List.getElem?_set]
  by_cases h : i = j
  · subst h
    rw [if_pos rfl, if_pos hi, if_pos rfl]
    rfl
  · rw [if_neg h, if_neg (fun e => h e.symm), List.getD_eq_getElem?_getD]
/-- a whole store at a place of a row of one's own -/
theorem row_put {W : World} {B c i : Nat} {a : Option Addr} {L : List Rc} (h : W.ownsRow B 60 5 (.slice a L.length c) L.length (rcV L)) (hi : i < L.length) : ∃ g cur, a = some ⟨g, 0, none⟩ ∧ B ≤ g ∧ Blk W g 60 cur ∧ i * 5 + 5 ≤ cur.size ∧ ∀ y : Rc, (W.setCells g (i * 5) (rcE y)).ownsRow B 60 5 (.slice a L.length c) L.length (rcV (L.set i y)) := by
  rcases h.2 with ⟨_, h0⟩ | ⟨g, cap, cur, he, hb, hg, h1, h2, h3, h4⟩
  · omega
  · injection he with e1 e2 e3
    subst e1 e3
    refine ⟨g, cur, rfl, hb, hg, by have : (i + 1) * 5 ≤ c * 5 := Nat.mul_le_mul_right 5 (by omega); omega, fun y => ?_⟩
    refine ⟨by rw [rcV_len, List.length_set], .inr ⟨g, _, _, rfl, hb, Blk.setMany _ _ _ _ hg, h1, h2, by rw [size_setMany]; exact h3, ?_⟩⟩
    apply List.ext_getElem?
    intro t
    by_cases ht : t < L.length * 5
    · have hs : t < cur.size := by have : L.length * 5 ≤ c * 5 := Nat.mul_le_mul_right 5 h1; omega
      rw [List.getElem?_take_of_lt ht, Array.getElem?_toList, many_get hs, rcE_len]
      have e2 := rcV_get (L.set i y) (i := t / 5) (r := t % 5) (by rw [List.length_set]; omega) (by omega)
      rw [show t / 5 * 5 + t % 5 = t by omega, getD_setR hi] at e2
      rw [e2]
      by_cases hc : i * 5 ≤ t ∧ t < i * 5 + 5
      · rw [if_pos hc, if_pos (by omega), show t - i * 5 = t % 5 by omega]
      · rw [if_neg hc, if_neg (by omega)]
        have e := rcV_get L (i := t / 5) (r := t % 5) (by omega) (by omega)
        rw [show t / 5 * 5 + t % 5 = t by omega] at e
        have h5 : (cur.toList.take (L.length * 5))[t]? = (rcV L)[t]? := by rw [h4]
        rw [List.getElem?_take_of_lt ht] at h5
        rw [← Array.getElem?_toList, h5, e]
    · rw [List.getElem?_take_eq_none (by omega), List.getElem?_eq_none (by rw [rcV_len, List.length_set]; omega)]
/-- .. of which the first k have come in the place of c's -/
def mixed (c l : List Rc) (t k : Nat) : List Rc := (List.range l.length).map fun i => if i < k then l.getD ((i + t) % l.length) default else c.getD i default
theorem poolP {x y : Po} (h : poP x = poP y) : poolB x = poolB y := by
  obtain ⟨x0, x1, x2, x3, x4, x5, x6, x7⟩ := x
  obtain ⟨y0, y1, y2, y3, y4, y5, y6, y7⟩ := y
  unfold poP at h
  simp only [Prod.mk.injEq] at h
  obtain ⟨rfl, rfl, rfl, rfl, rfl, rfl⟩ := h
  rfl
theorem hasB_mem {l : List Rc} {b : Int} : hasB l b = true ↔ ∃ x ∈ l, x.bird = b := by
  rw [hasB_iff]
  constructor
  · rintro ⟨j, hj, e⟩
    refine ⟨_, List.getElem_mem hj, ?_⟩
    rw [List.getD_eq_getElem?_getD, List.getElem?_eq_getElem hj] at e
    exact e
  · rintro ⟨x, hx, e⟩
    obtain ⟨j, hj, rfl⟩ := List.mem_iff_getElem.1 hx
    refine ⟨j, hj, ?_⟩
    rw [List.getD_eq_getElem?_getD, List.getElem?_eq_getElem hj]
    exact e
theorem race_iff (r : Ra) : raceB r = true ↔ (r.pools.length ≤ 6 ∧ r.protests.length ≤ 4 ∧ ascB r.protests = true) ∧ (∀ x ∈ r.pools, poolB x = true) ∧ (r.racers.length ≤ 12 ∧ Uniq r.racers) ∧ (∀ x ∈ r.racers, racerB r.pools.length x = true) ∧ ∀ k, k < r.protests.length → hasB r.racers (r.protests.getD k 0) = true := by
  constructor
  · intro h
    have hu := uniq_of (race_parts h)
    have hr : ∀ x ∈ r.racers, racerB r.pools.length x = true := fun x hx => racer_parts h hx
    unfold raceB at h
    simp only [Bool.and_eq_true, decide_eq_true_eq] at h
    obtain ⟨h1, h2, _, h4, h5, h6⟩ := h
    refine ⟨⟨h1, h4, h5⟩, fun x hx => ?_, hu, hr, allU_iff.1 h6⟩
    obtain ⟨j, hj, rfl⟩ := List.mem_iff_getElem.1 hx
    have := allU_iff.1 h2 j hj
    rwa [List.getD_eq_getElem?_getD, List.getElem?_eq_getElem hj] at this
  · rintro ⟨⟨h1, h2, h3⟩, h4, ⟨h5, h6⟩, h7, h8⟩
    unfold raceB racersB
    rw [decide_eq_true h1, decide_eq_true h2, decide_eq_true h5, h3, allU_iff.2 h8]
    have a : allU (fun i => poolB (r.pools.getD i default)) r.pools.length = true := allU_iff.2 fun k hk => by
      rw [List.getD_eq_getElem?_getD, List.getElem?_eq_getElem hk]
      exact h4 _ (List.getElem_mem hk)
    have b : allU (fun i => !hasB (r.racers.take i) (r.racers.getD i default).bird && racerB r.pools.length (r.racers.getD i default)) r.racers.length = true := allU_iff.2 fun k hk => by
      rw [List.getD_eq_getElem?_getD, List.getElem?_eq_getElem hk]
      have c : hasB (r.racers.take k) r.racers[k].bird = false := by
        rw [← Bool.not_eq_true, hasB_mem]
        rintro ⟨x, hx, e⟩
        obtain ⟨j, hj, rfl⟩ := List.mem_iff_getElem.1 hx
        rw [List.length_take] at hj
        rw [List.getElem_take] at e
        exact List.pairwise_iff_getElem.1 h6 j k (by omega) hk (by omega) e
      show (!hasB (r.racers.take k) r.racers[k].bird && racerB r.pools.length r.racers[k]) = true
      rw [c, h7 _ (List.getElem_mem hk)]
      rfl
    rw [a, b]
    rfl
end Go.Proofs.YtnkmcoljijmgpaaGreat

set_option linter.unusedSimpArgs false
set_option linter.unusedVariables false
namespace Go.Proofs.YtnkmcoljijmgpaaGreat
open Go.RowKit Go.Shelf Go.Sort Go.Maps
attribute [local go_sem] Oper.semAt_some
theorem own_Fr {R : Nat → Prop} {X Y : World} {b N z : Nat} {e : TypeId} {v : Value} {xs : List Value} (h : X.ownsRow b e z v N xs) (hF : Fr R X Y) (hne : ∀ g, v.ownBlock = some g → ¬ R g) : Y.ownsRow b e z v N xs := by
  refine ⟨h.1, ?_⟩
  rcases h.2 with hn | ⟨g', cap, cur, rfl, hb, hg, rest⟩
  · exact .inl hn
  · exact .inr ⟨g', cap, cur, rfl, hb, (hF.block g' (Array.getElem?_eq_some_iff.1 hg).1 (hne g' rfl)).trans hg, rest⟩
def canT (r : Ra) (p b : Int) : Int × Int × Int := if qE r p [b] = 0 then (canLo (fuOf r p none 0) b (caseL r.protests), canHi (fuOf r p none 0) b (caseL r.protests), 0) else (0, 0, qE r p [b])
theorem canC (r : Ra) (p b : Int) (w : World) (h : r.At w) : Calls Tryz.prog 25 #[.agg r.v, .int .i64 p, .int .i64 b] w fun e w' => G w w' ∧ e = .returned (.tuple #[.agg #[.int .i64 (canT r p b).1, .int .i64 (canT r p b).2.1], .int .i64 (canT r p b).2.2]) := by
  refine (Can_any r p b w h).mono ?_
  rintro e w' ⟨hG, ⟨h1, rfl⟩ | ⟨h1, rfl⟩⟩
  · unfold canT
    rw [if_neg h1]
    exact ⟨hG, rfl⟩
  · unfold canT
    rw [if_pos h1]
    exact ⟨hG, rfl⟩
theorem hasB_Q {l l' : List Rc} (h : l.map rcQ = l'.map rcQ) (b : Int) : hasB l b = hasB l' b := by
  have a : ∀ {l l' : List Rc}, l.map rcQ = l'.map rcQ → hasB l b = true → hasB l' b = true := fun {l l'} h hx => by
    obtain ⟨x, hx, e⟩ := hasB_mem.1 hx
    have hm : rcQ x ∈ l'.map rcQ := by
      rw [← h]
      exact List.mem_map.2 ⟨x, hx, rfl⟩
    obtain ⟨y, hy, e2⟩ := List.mem_map.1 hm
    refine hasB_mem.2 ⟨y, hy, ?_⟩
    have : y.bird = x.bird := congrArg Prod.fst e2
    rw [this, e]
  rw [Bool.eq_iff_iff]
  exact ⟨a h, a h.symm⟩
theorem qE_E {r o : Ra} (h : REq r o) (hr : raceB r = true) (ho : raceB o = true) (p : Int) (bs : List Int) : qE o p bs = qE r p bs := by
  unfold qE
  rw [if_pos hr, if_pos ho, h.len]
  have e : (fun i => hasB (runners o p) (bs.getD i 0)) = fun i => hasB (runners r p) (bs.getD i 0) := funext fun i => hasB_Q (h.rs p) _
  rw [e]
theorem canE {r o : Ra} (h : REq r o) (hr : raceB r = true) (ho : raceB o = true) (p b : Int) : canT o p b = canT r p b := by
  unfold canT
  rw [qE_E h hr ho, h.pr]
  have e := canP (f := fuOf o p none 0) (g := fuOf r p none 0) (h.po p) (K_of_Q (h.rs p)) b (caseL r.protests)
  rw [e.1, e.2]
end Go.Proofs.YtnkmcoljijmgpaaGreat

set_option linter.unusedSimpArgs false
set_option linter.unusedVariables false
namespace Go.Proofs.YtnkmcoljijmgpaaGreat
open Go.RowKit Go.Shelf Go.Sort Go.Maps
attribute [local go_sem] Oper.semAt_some
/-- the prize of a bird, as the law looks for it -/
def pzP (l : List Pz) (b : Int) : Pz := (l.find? fun x => x.bird == b).getD ⟨0, 0, 0⟩
/-- of a fund's prizes: a bird that is nominated -/
theorem pzP_fund {f : Fu} {b : Int} (h : ∃ x ∈ f.rs, x.bird = b) : ((prizesL f).any fun x => x.bird == b) = true ∧ (pzP (prizesL f) b).bird = b ∧ (pzP (prizesL f) b).won = wonAt (wonL f []) b := by
  have hall : ∀ p ∈ prizesL f, p.won = wonAt (wonL f []) p.bird := fun p hp => by
    unfold prizesL at hp
    obtain ⟨i, _, rfl⟩ := List.mem_map.1 hp
    rfl
  have hex : ∃ p ∈ prizesL f, p.bird = b := by
    obtain ⟨x, hx, e⟩ := h
    obtain ⟨i, hi, rfl⟩ := List.mem_iff_getElem.1 hx
    refine ⟨_, List.mem_map.2 ⟨i, List.mem_range.2 hi, rfl⟩, ?_⟩
    show (f.rs.getD i default).bird = b
    rw [List.getD_eq_getElem?_getD, List.getElem?_eq_getElem hi]
    exact e
  obtain ⟨p, hp, e⟩ := hex
  have ha : ((prizesL f).any fun x => x.bird == b) = true := List.any_eq_true.2 ⟨p, hp, by simpa using e⟩
  refine ⟨ha, ?_⟩
  unfold pzP
  cases hf : (prizesL f).find? fun x => x.bird == b with
  | none =>
    have := List.find?_eq_none.1 hf p hp
    simp [e] at this
  | some q =>
    have h1 := List.mem_of_find?_eq_some hf
    have h2 : q.bird = b := by simpa using List.find?_some hf
    show q.bird = b ∧ q.won = _
    exact ⟨h2, by rw [hall q h1, h2]⟩
end Go.Proofs.YtnkmcoljijmgpaaGreat

set_option linter.unusedSimpArgs false
set_option linter.unusedVariables false
namespace Go.Proofs.YtnkmcoljijmgpaaGreat
open Go.RowKit Go.Shelf Go.Sort Go.Maps
attribute [local go_sem] Oper.semAt_some
/-- a row of rows of numbers, to be read -/
def GrpAt (W : World) (va : Option Addr) (gs : List (List Int)) : Prop := ∀ j, j < gs.length → ∃ go ga gc, va = some ⟨go, 0, none⟩ ∧ go < W.heap.size ∧ W.cell? ⟨go, j, none⟩ = some (.slice ga (gs.getD j []).length gc) ∧ IntsAt W ga (gs.getD j [])
theorem grp_read {W : World} {B : Nat} {v : Value} {gs : List (List Int)} {cs : List Value} {Bl : Nat} (h : OrdAt W B v gs cs Bl) : ∃ va vc, v = .slice va gs.length vc ∧ GrpAt W va gs := by
  by_cases h0 : gs.length = 0
  · obtain ⟨va, vc, e⟩ : ∃ va vc, v = .slice va gs.length vc := by
      rcases h.out.2 with ⟨rfl, h1⟩ | ⟨g, cap, cur, rfl, _⟩
      · exact ⟨none, 0, by rw [h0]⟩
      · exact ⟨_, _, rfl⟩
    exact ⟨va, vc, e, fun j hj => by omega⟩
  · obtain ⟨go, ocap, ocur, hov, hbv, hlv, htv⟩ := own_some h.out (by omega)
    refine ⟨_, _, hov, fun j hj => ?_⟩
    obtain ⟨ga, gc, hcs, hig⟩ := own_ints (h.inn j hj)
    have hcl := h.len
    exact ⟨go, ga, gc, rfl, hlv, take_cell hbv htv (k := j) (by omega) (by rw [← hcs]; simp [List.getD_eq_getElem?_getD, show j < cs.length by omega]), hig⟩
/-- what the law looks at: groups, prizes, places -/
structure TieF (AL : List Pz) (GS : List (List Int)) (PL : List Int) (wn : Nat → Nat → Int) : Prop where
  l1 : GS.length ≤ AL.length
  l2 : PL.length ≤ AL.length + 8
  l3 : AL.length ≤ 12
  ne : ∀ j, j < GS.length → 0 < (GS.getD j []).length ∧ (GS.getD j []).length ≤ 12
  any : ∀ j k, j < GS.length → k < (GS.getD j []).length → (AL.any fun x => x.bird == (GS.getD j []).getD k 0) = true
  won : ∀ j k, j < GS.length → k < (GS.getD j []).length → (pzP AL ((GS.getD j []).getD k 0)).won = wn j k
  bd : ∀ j k, j < GS.length → k < (GS.getD j []).length → 0 ≤ wn j k ∧ wn j k ≤ 1200000
  lo : ∀ j k, j < GS.length → k < (GS.getD j []).length → wn j k ≤ wn j 0 ∧ wn j 0 - 1 ≤ wn j k
  st : ∀ j k, j < GS.length → k + 1 < (GS.getD j []).length → (GS.getD j []).getD k 0 < (GS.getD j []).getD (k + 1) 0 ∧ wn j (k + 1) ≤ wn j k
  fa : (∀ i, i + 1 < PL.length → PL.getD (i + 1) 0 ≤ PL.getD i 0) → ∀ j k k', j + 1 < GS.length → k < (GS.getD j []).length → k' < (GS.getD (j + 1) []).length → wn (j + 1) k' ≤ wn j k + 1
end Go.Proofs.YtnkmcoljijmgpaaGreat

