import Derived.Below
import Derived.BigQuiet
import Derived.ChangeOld
import Derived.Deep.AppendLies
import Derived.Deep.Draws
import Derived.Deep.QuietTactic
import Derived.Deep.RegionHeld
import Derived.Deep.Slices
import Derived.Ground.Names2Prog
import Derived.Ground.SlsfProg
import Derived.Ground.SlsoProg
import Derived.IntWalk
import Derived.Laws.AppendOwn
import Derived.Laws.AppendOwnNone
import Derived.Laws.Bits128
import Derived.Laws.OwnMore
import Derived.Laws.Rows
import Derived.Laws.StructEq
import Derived.Lib.Hide
import Derived.Lib.SlKeysI
import Derived.Lib.SliceRun
import Derived.Lib.SmallJoins
import Derived.LoopIn
import Derived.LoopNIn
import Derived.Maps.OwnIn
import Derived.Maps.RangeWalk
import Derived.OpenShut
import Derived.OrdersHeld
import Derived.OrdersIn
import Derived.Outline
import Derived.OwnWalkIn
import Derived.ProofKit
import Derived.RangeFuncBound
import Derived.RangeFuncCalls
import Derived.RangeFuncLeaves
import Derived.RangeFuncNested
import Derived.Shelf.Abstract
import Derived.Shelf.GgSortFunc.InsertionK
import Derived.Shelf.RegionOpen
import Derived.Shelf.SlSortCmp.NoneTotal
import Derived.Shelf.SlSortCmp.WholeK
import Derived.Shelf.SlSorted.Search
import Derived.Shelf.Slices.Cells
import Derived.Shelf.Slices.CompactI
import Derived.Shelf.Slices.In.SortNone
import Derived.Shelf.Slices.SearchI
import Derived.Shelf.Small.Bits
import Derived.Shelf.Sort.Plain
import Derived.Shelf.Strconv.Itoa0
import Derived.Sort.Grow
import Derived.Sort.MapsRangeIn
import Derived.TacticsIn
import Derived.TacticsInMore
import Derived.Test.YtnkmcoljijmgpaaGreatProg
import Derived.WalkKit
import Derived.WalkSpells
import Derived.Test.YtnkmcoljijmgpaaGreatS6
set_option linter.unusedSimpArgs false
set_option linter.unusedVariables false
namespace Go.Proofs.YtnkmcoljijmgpaaGreat
open Go.RowKit Go.Shelf
attribute [local go_sem] Oper.semAt_some

/-- a place of a map -/
abbrev Pl (cols rows : Nat) := { p : Nat × Nat // p.1 < cols ∧ p.2 < rows }
end Go.Proofs.YtnkmcoljijmgpaaGreat
set_option linter.unusedSimpArgs false
set_option linter.unusedVariables false
namespace Go.Proofs.YtnkmcoljijmgpaaGreat
open Go.RowKit

section
variable {P : Program} {ops : Array Oper} {md : Region.Mode} {l : Option Nat} {n : Nat} {Q : Exit → Act → World → Prop}
end
end Go.Proofs.YtnkmcoljijmgpaaGreat
set_option linter.unusedSimpArgs false
set_option linter.unusedVariables false
namespace Go.Proofs.YtnkmcoljijmgpaaGreat
open Go.RowKit Go.Shelf

section
variable {R : Nat → Prop} {A B C : World}
end

variable {F : Fence} {n : Nat} {P : Program}
end Go.Proofs.YtnkmcoljijmgpaaGreat
set_option linter.unusedSimpArgs false
set_option linter.unusedVariables false
namespace Go.Proofs.YtnkmcoljijmgpaaGreat
open Go.RowKit

section
variable {P : Program} {ops : Array Oper} {md : Region.Mode} {Q : Exit → Act → World → Prop} {S : World → Prop} {z : Nat}
end

end Go.Proofs.YtnkmcoljijmgpaaGreat
set_option linter.unusedSimpArgs false
set_option linter.unusedVariables false
namespace Go.Proofs.YtnkmcoljijmgpaaGreat
open Go.RowKit

section
variable {P : Program} {ops : Array Oper} {md : Region.Mode} {Q : Exit → Act → World → Prop} {S : World → Prop} {z : Nat}
end
end Go.Proofs.YtnkmcoljijmgpaaGreat
set_option linter.unusedSimpArgs false
set_option linter.unusedVariables false
namespace Go.Proofs.YtnkmcoljijmgpaaGreat
open Go.RowKit Go.Shelf
attribute [local go_sem] Oper.semAt_some

attribute [local go_sem] wide_fn wide_dep wideR_fn wideR_dep ptV

section
variable (north : Int) (cols : Nat) (east : List Int) (svs : List Sv)
end

end Go.Proofs.YtnkmcoljijmgpaaGreat
set_option linter.unusedSimpArgs false
set_option linter.unusedVariables false
namespace Go.Proofs.YtnkmcoljijmgpaaGreat
open Go.RowKit Go.Shelf
attribute [local go_sem] Oper.semAt_some wide_fn wide_dep

end Go.Proofs.YtnkmcoljijmgpaaGreat
set_option linter.unusedSimpArgs false
set_option linter.unusedVariables false
namespace Go.Proofs.YtnkmcoljijmgpaaGreat
open Go.RowKit Go.Shelf
attribute [local go_sem] Oper.semAt_some wide_fn wide_dep wideR_fn wideR_dep

section
variable {F : Fence} {n : Nat} {P : Program}
end

end Go.Proofs.YtnkmcoljijmgpaaGreat
set_option linter.unusedSimpArgs false
set_option linter.unusedVariables false
namespace Go.Proofs.YtnkmcoljijmgpaaGreat
open Go.RowKit Go.Shelf

section
variable {T : TypeId → Prop} {B : Nat} {X Y Z : World}
end
section
variable {l D B : Nat} {r r' : Loop} {X Y : World} {T : TypeId → Prop}
end

section
variable {F : Fence} {n : Nat} {P : Program}
end
end Go.Proofs.YtnkmcoljijmgpaaGreat
set_option linter.unusedSimpArgs false
set_option linter.unusedVariables false
namespace Go.Proofs.YtnkmcoljijmgpaaGreat
open Go.RowKit

end Go.Proofs.YtnkmcoljijmgpaaGreat
set_option linter.unusedSimpArgs false
set_option linter.unusedVariables false
namespace Go.Proofs.YtnkmcoljijmgpaaGreat
open Go.RowKit

end Go.Proofs.YtnkmcoljijmgpaaGreat
set_option linter.unusedSimpArgs false
set_option linter.unusedVariables false
namespace Go.Proofs.YtnkmcoljijmgpaaGreat
open Go.RowKit

end Go.Proofs.YtnkmcoljijmgpaaGreat
set_option linter.unusedSimpArgs false
set_option linter.unusedVariables false
namespace Go.Proofs.YtnkmcoljijmgpaaGreat
open Go.RowKit

end Go.Proofs.YtnkmcoljijmgpaaGreat

set_option linter.unusedSimpArgs false
set_option linter.unusedVariables false
namespace Go.Proofs.YtnkmcoljijmgpaaGreat
open Go.RowKit

section
variable (north cols lofts wrong loft kind xl xh yl yh ax ay dl dh : Int) (ea : Option Addr) (el ec : Nat) (s : Value) (w : World)
end

end Go.Proofs.YtnkmcoljijmgpaaGreat
set_option linter.unusedSimpArgs false
set_option linter.unusedVariables false
namespace Go.Proofs.YtnkmcoljijmgpaaGreat
open Go.RowKit
attribute [local go_sem] Oper.semAt_some

end Go.Proofs.YtnkmcoljijmgpaaGreat
set_option linter.unusedSimpArgs false
set_option linter.unusedVariables false
namespace Go.Proofs.YtnkmcoljijmgpaaGreat
open Go.RowKit
attribute [local go_sem] Oper.semAt_some

end Go.Proofs.YtnkmcoljijmgpaaGreat
set_option linter.unusedSimpArgs false
set_option linter.unusedVariables false
namespace Go.Proofs.YtnkmcoljijmgpaaGreat
open Go.RowKit
attribute [local go_sem] Oper.semAt_some
section
variable {gE gS : Nat} {w : World} (he : IntsAt w (some ⟨gE, 0, none⟩) exEast) (hs : SvsAt w (some ⟨gS, 0, none⟩) exSvs)
include he hs
end

end Go.Proofs.YtnkmcoljijmgpaaGreat
set_option linter.unusedSimpArgs false
set_option linter.unusedVariables false
namespace Go.Proofs.YtnkmcoljijmgpaaGreat
open Go.RowKit
attribute [local go_sem] Oper.semAt_some

section
variable (north cols lofts wrong px py qx qy : Int) (east : List Int) (svs : List Sv) (ea sa : Option Addr) (ec sc : Nat) (w : World)
variable (he : IntsAt w ea east) (hs : SvsAt w sa svs) (hl : east.length ≤ 9223372036854775807) (hl2 : svs.length ≤ 9223372036854775807)

end
end Go.Proofs.YtnkmcoljijmgpaaGreat
set_option linter.unusedSimpArgs false
set_option linter.unusedVariables false
namespace Go.Proofs.YtnkmcoljijmgpaaGreat
open Go.RowKit Go.ChangeShapes Go.WideShapes Go.ChangeAt
set_option maxRecDepth 100000

section
variable {H : Type} {enc : TypeId × Value → H} {w : World} {base : Nat} {sp : Nat → Bool} {held : Bool} {fuel : Nat}
end

theorem add_none (b off k : Nat) : (⟨b, off, none⟩ : Addr).add k = ⟨b, off + k, none⟩ := by
  unfold Addr.add
  split
  · rename_i h; simp [h]
  · rfl
theorem lt_of_cell {w : World} {b o : Nat} {v : Value} (h : w.cell? ⟨b, o, none⟩ = some v) : b < w.heap.size := by
  rcases Nat.lt_or_ge b w.heap.size with hlt | hge
  · exact hlt
  · simp [World.cell?, Array.getElem?_eq_none hge] at h

section
variable {H : Type} {enc : TypeId × Value → H} {w : World} {fuel : Nat}
end
end Go.Proofs.YtnkmcoljijmgpaaGreat
set_option linter.unusedSimpArgs false
set_option linter.unusedVariables false
namespace Go.Proofs.YtnkmcoljijmgpaaGreat
open Go.RowKit Go.ChangeShapes Go.WideShapes Go.ChangeAt
set_option maxRecDepth 100000

section
variable {H : Type} {enc : TypeId × Value → H} {w : World}
end
end Go.Proofs.YtnkmcoljijmgpaaGreat
set_option linter.unusedSimpArgs false
set_option linter.unusedVariables false
namespace Go.Proofs.YtnkmcoljijmgpaaGreat
open Go.RowKit Go.Shelf
attribute [local go_sem] Oper.semAt_some

end Go.Proofs.YtnkmcoljijmgpaaGreat
set_option linter.unusedSimpArgs false
set_option linter.unusedVariables false
namespace Go.Proofs.YtnkmcoljijmgpaaGreat
open Go.RowKit
attribute [local go_sem] Oper.semAt_some

section
variable (north wrong : Int) (cols lofts : Nat) (east : List Int) (svs : List Sv) (ea sa : Option Addr) (ec sc : Nat) (w : World)
end

section
variable (north cols lofts wrong : Int) (east : List Int) (svs : List Sv) (ea sa : Option Addr) (ec sc : Nat) (w : World) (he : IntsAt w ea east) (hs : SvsAt w sa svs) (hl : east.length ≤ 9223372036854775807) (hl2 : svs.length ≤ 9223372036854775807)
include he hs hl hl2
end
end Go.Proofs.YtnkmcoljijmgpaaGreat
set_option linter.unusedSimpArgs false
set_option linter.unusedVariables false
namespace Go.Proofs.YtnkmcoljijmgpaaGreat
open Go.RowKit Go.Shelf
attribute [local go_sem] Oper.semAt_some wide_fn wide_dep wideR_fn wideR_dep

end Go.Proofs.YtnkmcoljijmgpaaGreat
set_option linter.unusedSimpArgs false
set_option linter.unusedVariables false
namespace Go.Proofs.YtnkmcoljijmgpaaGreat
open Go.RowKit
attribute [local go_sem] Oper.semAt_some

section
variable (north wrong : Int) (cols lofts l a b : Nat) (east : List Int) (svs : List Sv) (ea sa : Option Addr) (ec sc : Nat) (w : World)
end
end Go.Proofs.YtnkmcoljijmgpaaGreat
set_option linter.unusedSimpArgs false
set_option linter.unusedVariables false
namespace Go.Proofs.YtnkmcoljijmgpaaGreat
open Go.RowKit

end Go.Proofs.YtnkmcoljijmgpaaGreat
set_option linter.unusedSimpArgs false
set_option linter.unusedVariables false
namespace Go.Proofs.YtnkmcoljijmgpaaGreat
open Go.RowKit
attribute [local go_sem] Oper.semAt_some

end Go.Proofs.YtnkmcoljijmgpaaGreat

set_option linter.unusedSimpArgs false
set_option linter.unusedVariables false
namespace Go.Proofs.YtnkmcoljijmgpaaGreat
open Go.RowKit Go.Shelf Go.Sort Go.Maps
attribute [local go_sem] Oper.semAt_some
def PrPost (r : Ra) (p : Int) (w : World) (e : Ending) (w' : World) : Prop := G w w' ∧ ((qE r p [] ≠ 0 ∧ e = .returned (.tuple #[.slice none 0 0, .int .i64 (qE r p [])])) ∨ (qE r p [] = 0 ∧ ∃ v, e = .returned (.tuple #[v, .int .i64 0]) ∧ w'.ownsRow w.heap.size 40 3 v (prizesL (fuOf r p none 0)).length (cv Pz.v (prizesL (fuOf r p none 0)))))
set_option maxRecDepth 100000 in
set_option maxHeartbeats 4000000 in
theorem Prizes_any (r : Ra) (p : Int) (w : World) (h : r.At w) : Calls Tryz.prog 18 #[.agg r.v, .int .i64 p] w (PrPost r p w) := by
  have HQ := Lib.hid (fun (W : World) (hW : G w W) => question_any r p [] none 0 W (h.keep hW) (.inl rfl) (by simp))
  have HE : Hid (qE r p [] ≠ 0 → ∀ W', G w W' → PrPost r p w (.returned (.tuple #[.slice none 0 0, .int .i64 (qE r p [])])) W') := fun a W' b => ⟨b, .inl ⟨a, rfl⟩⟩
  have HS : Hid (qE r p [] = 0 → ∀ W' v, G w W' → W'.ownsRow w.heap.size 40 3 v (prizesL (fuOf r p none 0)).length (cv Pz.v (prizesL (fuOf r p none 0))) → PrPost r p w (.returned (.tuple #[v, .int .i64 0])) W') := fun a W' v b c => ⟨b, .inr ⟨a, v, rfl, c⟩⟩
  have HC := Lib.hid (fun (hq : qE r p [] = 0) (W : World) (hW : G w W) (B : Nat) (fa : Option Addr) (fc : Nat) (ho : W.ownsRow B 60 5 (.slice fa (runners r p).length fc) (runners r p).length (rcV (runners r p))) => prizes_any (fuOf r p fa fc) W (gf_of (qE_parts hq).1 (qE_parts hq).2 (h.keep hW) ho))
  have HPL : Hid (∀ fa fc, prizesL (fuOf r p fa fc) = prizesL (fuOf r p none 0)) := fun _ _ => rfl
  unfold QPost at HQ
  have hv : ∀ fa fc, (fuOf r p fa fc).v = #[.int .i64 (poolAt r p).stake, .int .i64 (poolAt r p).cut, .int .i64 (poolAt r p).kind, .slice (poolAt r p).ta (poolAt r p).table.length (poolAt r p).tc, .int .i64 (poolAt r p).quota, .bool (poolAt r p).first, .slice fa (runners r p).length fc, .slice r.ta r.protests.length r.tc] := fun _ _ => rfl
  generalize PrPost r p w = PP at *
  clear h
  have g0 : G w (w.alloc (.cells r.v 26)) := (G.rf _).a _
  have b0 : Blk (w.alloc (.cells r.v 26)) w.heap.size 26 r.v := Blk.new _ _ _
  have m0 : (w.alloc (.cells r.v 26)).cell? ⟨w.heap.size, 0, none⟩ = some (.slice r.ra r.racers.length r.rc) := b0.cell 0
  have m1 : (w.alloc (.cells r.v 26)).cell? ⟨w.heap.size, 1, none⟩ = some (.slice r.pa r.pools.length r.pc) := b0.cell 1
  have m2 : (w.alloc (.cells r.v 26)).cell? ⟨w.heap.size, 2, none⟩ = some (.slice r.ta r.protests.length r.tc) := b0.cell 2
  have l0 := b0.lt
  have hrv : r.v = #[.slice r.ra r.racers.length r.rc, .slice r.pa r.pools.length r.pc, .slice r.ta r.protests.length r.tc] := rfl
  rw [hrv] at HQ g0 m0 m1 m2 l0 ⊢
  clear hrv b0
  generalize hQE : qE r p [] = QE at *
  go_enter Tryz.func18, Tryz.ntmps18
  go_upto_region 1 with fail
  change Code.wp _ _ _ _ (w.alloc (.cells #[.slice r.ra r.racers.length r.rc, .slice r.pa r.pools.length r.pc, .slice r.ta r.protests.length r.tc] 26))
  generalize w.alloc (.cells #[.slice r.ra r.racers.length r.rc, .slice r.pa r.pools.length r.pc, .slice r.ta r.protests.length r.tc] 26) = W1 at *
  by_cases hq : QE = 0
  · have HQ1 : Hid (Calls Tryz.prog 46 #[.agg #[.slice r.ra r.racers.length r.rc, .slice r.pa r.pools.length r.pc, .slice r.ta r.protests.length r.tc], .int .i64 p, .slice none 0 0] W1 fun e w' => ∃ fa fc, e = .returned (.tuple #[.agg (fuOf r p fa fc).v, .int .i64 0]) ∧ w'.ownsRow W1.heap.size 60 5 (.slice fa (runners r p).length fc) (runners r p).length (rcV (runners r p)) ∧ G W1 w') := by
      refine (HQ.out W1 g0).mono ?_
      rintro e w' ⟨hG, hh⟩
      rcases hh with ⟨a, _⟩ | ⟨_, fa, fc, a, b⟩
      · exact absurd hq a
      · exact ⟨fa, fc, a, b, hG⟩
    simp only [hv] at HQ1
    clear HQ HE
    have HC2 := Lib.hid (HC.out hq)
    clear HC
    simp only [hv] at HC2
    go_upto_region 2 with (go_at_call 46; refine (HQ1.out).mono ?_; rintro e w2 ⟨fa, fc, rfl, ho2, hG2⟩)
    have ga := (G.rf w2).a (.cells #[.int .i64 (poolAt r p).stake, .int .i64 (poolAt r p).cut, .int .i64 (poolAt r p).kind, .slice (poolAt r p).ta (poolAt r p).table.length (poolAt r p).tc, .int .i64 (poolAt r p).quota, .bool (poolAt r p).first, .slice fa (runners r p).length fc, .slice r.ta r.protests.length r.tc] 85)
    have HC3 := Lib.hid (HC2.out _ ((g0.t hG2).t ga) _ fa fc (own_G ho2 ga))
    clear ho2 HC2
    go_wp2_with (go_at_call 52; refine (HC3.out).mono ?_; rintro e w3 ⟨v, rfl, ho3, hG3⟩)
    have gz := ((g0.t hG2).t ga).t hG3
    rw [HPL.out] at ho3
    exact HS.out hq _ _ gz (own_weaken ho3 ((g0.t hG2).t ga).size)
  · have HQ0 : Hid (Calls Tryz.prog 46 #[.agg #[.slice r.ra r.racers.length r.rc, .slice r.pa r.pools.length r.pc, .slice r.ta r.protests.length r.tc], .int .i64 p, .slice none 0 0] W1 fun e w' => e = .returned (.tuple #[.agg #[.int .i64 0, .int .i64 0, .int .i64 0, .slice none 0 0, .int .i64 0, .bool false, .slice none 0 0, .slice none 0 0], .int .i64 QE]) ∧ G W1 w') := by
      refine (HQ.out W1 g0).mono ?_
      rintro e w' ⟨hG, hh⟩
      rcases hh with ⟨_, a⟩ | ⟨a, _⟩
      · exact ⟨a, hG⟩
      · exact absurd a hq
    have e0 : (QE == 0) = false := by simpa using hq
    have HE2 := Lib.hid (HE.out hq)
    clear HQ HE HC HS hv
    go_wp2_with (go_at_call 46; refine (HQ0.out).mono ?_; rintro e w2 ⟨rfl, hG2⟩)
    first | exact HE2.out _ (g0.t hG2) | exact HE2.out _ ((g0.t hG2).a _) | trace_state
end Go.Proofs.YtnkmcoljijmgpaaGreat

set_option linter.unusedSimpArgs false
set_option linter.unusedVariables false
namespace Go.Proofs.YtnkmcoljijmgpaaGreat
open Go.RowKit Go.Shelf Go.ChangeShapes Go.WideShapes Go.ChangeAt
attribute [local go_sem] Oper.semAt_some
set_option maxRecDepth 100000
theorem k24 : Tryz.prog.cellsOf 24 = 1 := by kernel_rfl
theorem k60 : Tryz.prog.cellsOf 60 = 5 := by kernel_rfl
theorem k42 : Tryz.prog.cellsOf 42 = 6 := by kernel_rfl
theorem k23p : Tryz.prog.cellsOf 23 = 1 := by kernel_rfl
theorem k22p : Tryz.prog.cellsOf 22 = 1 := by kernel_rfl
theorem k26 : Tryz.prog.cellsOf 26 = 3 := by kernel_rfl
theorem k4 : Tryz.prog.cellsOf 4 = 1 := by kernel_rfl
section
variable {H : Type} {enc : TypeId × Value → H} {w : World} {fuel : Nat}
end
section
variable {H : Type} {enc : TypeId × Value → H} {w : World} {fuel : Nat}
end
section
variable {H : Type} {enc : TypeId × Value → H} {w : World} {fuel : Nat}
end
end Go.Proofs.YtnkmcoljijmgpaaGreat

set_option linter.unusedSimpArgs false
set_option linter.unusedVariables false
namespace Go.Proofs.YtnkmcoljijmgpaaGreat
open Go.RowKit Go.Shelf Go.Sort Go.Maps
attribute [local go_sem] Oper.semAt_some
theorem neq40 (a b c : Int) (w : World) : (binOp .neq 40 (.agg #[.int .i64 a, .int .i64 b, .int .i64 c]) (.agg #[.int .i64 a, .int .i64 b, .int .i64 c])).run Tryz.prog w = .ok (.bool false) w := by
  go_simp
theorem neq47 (a b c : Int) (w : World) : (binOp .neq 47 (.agg #[.int .i64 a, .int .i64 b, .int .i64 c]) (.agg #[.int .i64 a, .int .i64 b, .int .i64 c])).run Tryz.prog w = .ok (.bool false) w := by
  go_simp
set_option maxRecDepth 100000 in
set_option maxHeartbeats 4000000 in
theorem same26_any (l : List Pz) (a b : Option Addr) (c d : Nat) (w : World) (h1 : RowE Pz.v 3 w a l) (h2 : RowE Pz.v 3 w b l) (hl : l.length ≤ 1000) : Calls Tryz.prog 26 #[.slice a l.length c, .slice b l.length d] w fun e w' => e = .returned (.bool true) ∧ G w w' := by
  go_enter Tryz.func26, Tryz.ntmps26
  go_wp2_with fail
  go_loopw [5] (fun i wr => ∃ k : Nat, k ≤ l.length ∧ i = .int .i64 k ∧ G w wr) (fun i _ => l.length - (intOf i).toNat)
  case atStart => exact ⟨0, Nat.zero_le _, rfl, G.rf _⟩
  case round =>
    obtain ⟨k, hk, rfl, hG⟩ := hrel
    obtain ⟨wo, rfl⟩ : ∃ wo, wo = wr := ⟨_, rfl⟩
    by_cases hlt : k < l.length
    · have hki : (k : Int) < l.length := by omega
      rcases h1 with h | ⟨g1, o1, rfl, hg1, hc1⟩
      · omega
      rcases h2 with h | ⟨g2, o2, rfl, hg2, hc2⟩
      · omega
      have e1 := hc1 k hlt
      have e2 := hc2 k hlt
      obtain ⟨y, hy⟩ : ∃ y, y = l.getD k default := ⟨_, rfl⟩
      rw [← hy] at e1 e2
      clear hy hc1 hc2
      obtain ⟨x0, x1, x2⟩ := y
      unfold Pz.v at e1 e2
      have hSk : ∀ W', G wo W' → (W'.cell? ⟨g1, o1 + k * 3, none⟩ = some (.int .i64 x0) ∧ W'.cell? ⟨g1, o1 + k * 3 + 1, none⟩ = some (.int .i64 x1) ∧ W'.cell? ⟨g1, o1 + k * 3 + 2, none⟩ = some (.int .i64 x2) ∧ g1 < W'.heap.size) ∧ W'.cell? ⟨g2, o2 + k * 3, none⟩ = some (.int .i64 x0) ∧ W'.cell? ⟨g2, o2 + k * 3 + 1, none⟩ = some (.int .i64 x1) ∧ W'.cell? ⟨g2, o2 + k * 3 + 2, none⟩ = some (.int .i64 x2) ∧ g2 < W'.heap.size := fun W' hW => ⟨⟨((bcellB (hG.t hW)).1 g1 _ hg1).trans (e1 0 (by omega)), ((bcellB (hG.t hW)).1 g1 _ hg1).trans (e1 1 (by omega)), ((bcellB (hG.t hW)).1 g1 _ hg1).trans (e1 2 (by omega)), Nat.lt_of_lt_of_le hg1 (hG.t hW).size⟩, ((bcellB (hG.t hW)).1 g2 _ hg2).trans (e2 0 (by omega)), ((bcellB (hG.t hW)).1 g2 _ hg2).trans (e2 1 (by omega)), ((bcellB (hG.t hW)).1 g2 _ hg2).trans (e2 2 (by omega)), Nat.lt_of_lt_of_le hg2 (hG.t hW).size⟩
      clear e1 e2
      have hnq := neq40
      go_upto_region 6 with fail
      refine wp_region_Y (S := fun W' => (W'.cell? ⟨g1, o1 + k * 3, none⟩ = some (.int .i64 x0) ∧ W'.cell? ⟨g1, o1 + k * 3 + 1, none⟩ = some (.int .i64 x1) ∧ W'.cell? ⟨g1, o1 + k * 3 + 2, none⟩ = some (.int .i64 x2) ∧ g1 < W'.heap.size) ∧ W'.cell? ⟨g2, o2 + k * 3, none⟩ = some (.int .i64 x0) ∧ W'.cell? ⟨g2, o2 + k * 3 + 1, none⟩ = some (.int .i64 x1) ∧ W'.cell? ⟨g2, o2 + k * 3 + 2, none⟩ = some (.int .i64 x2) ∧ g2 < W'.heap.size) 8 9 rfl (by kernel_rfl) (hSk _ (G.rf _).d) (fun hS => ?_)
      have ga := (G.rf wo).d
      refine wpAnyY_take (i := 0) (v := ?_) rfl (by kernel_rfl) (by kernel_rfl) (by kernel_rfl) (by kernel_rfl) (fun _ _ _ h => h) (Or.inl ⟨by kernel_rfl, ?_⟩) hS ?_
      rotate_left
      · intro w' hSw; go_simp; with_reducible rfl
      try simp only [Act.put, List.getElem_toArray, List.getElem_cons_zero, List.getElem_cons_succ, List.setIfInBounds_toArray, List.set_cons_zero, List.set_cons_succ]
      refine wpAnyY_take (i := 1) (v := ?_) rfl (by kernel_rfl) (by kernel_rfl) (by kernel_rfl) (by kernel_rfl) (fun _ _ _ h => h) (Or.inl ⟨by kernel_rfl, ?_⟩) hS ?_
      rotate_left
      · intro w' hSw; go_simp; with_reducible rfl
      try simp only [Act.put, List.getElem_toArray, List.getElem_cons_zero, List.getElem_cons_succ, List.setIfInBounds_toArray, List.set_cons_zero, List.set_cons_succ]
      refine wpAnyY_take (i := 2) (v := ?_) rfl (by kernel_rfl) (by kernel_rfl) (by kernel_rfl) (by kernel_rfl) (fun _ _ _ h => h) (Or.inl ⟨by kernel_rfl, ?_⟩) hS ?_
      rotate_left
      · intro w' hSw; obtain ⟨⟨a0, a1, a2, la⟩, b0, b1, b2, lb⟩ := hSw; go_simp; with_reducible rfl
      try simp only [Act.put, List.getElem_toArray, List.getElem_cons_zero, List.getElem_cons_succ, List.setIfInBounds_toArray, List.set_cons_zero, List.set_cons_succ]
      refine wpAnyY_take (i := 3) (v := ?_) rfl (by kernel_rfl) (by kernel_rfl) (by kernel_rfl) (by kernel_rfl) (fun _ _ _ h => h) (Or.inl ⟨by kernel_rfl, ?_⟩) hS ?_
      rotate_left
      · intro w' hSw; obtain ⟨⟨a0, a1, a2, la⟩, b0, b1, b2, lb⟩ := hSw; go_simp; with_reducible rfl
      try simp only [Act.put, List.getElem_toArray, List.getElem_cons_zero, List.getElem_cons_succ, List.setIfInBounds_toArray, List.set_cons_zero, List.set_cons_succ]
      refine wpAnyY_take (i := 4) (v := ?_) rfl (by kernel_rfl) (by kernel_rfl) (by kernel_rfl) (by kernel_rfl) (fun _ _ _ h => h) (Or.inl ⟨by kernel_rfl, ?_⟩) hS ?_
      rotate_left
      · intro w' hSw; go_simp; with_reducible rfl
      try simp only [Act.put, List.getElem_toArray, List.getElem_cons_zero, List.getElem_cons_succ, List.setIfInBounds_toArray, List.set_cons_zero, List.set_cons_succ]
      refine wpAnyY_take (i := 5) (v := ?_) rfl (by kernel_rfl) (by kernel_rfl) (by kernel_rfl) (by kernel_rfl) (fun _ _ _ h => h) (Or.inl ⟨by kernel_rfl, ?_⟩) hS ?_
      rotate_left
      · intro w' hSw; go_simp; with_reducible rfl
      try simp only [Act.put, List.getElem_toArray, List.getElem_cons_zero, List.getElem_cons_succ, List.setIfInBounds_toArray, List.set_cons_zero, List.set_cons_succ]
      refine wpAnyY_take (i := 6) (v := ?_) rfl (by kernel_rfl) (by kernel_rfl) (by kernel_rfl) (by kernel_rfl) (fun _ _ _ h => h) (Or.inl ⟨by kernel_rfl, ?_⟩) hS ?_
      rotate_left
      · intro w' hSw; obtain ⟨⟨a0, a1, a2, la⟩, b0, b1, b2, lb⟩ := hSw; go_simp; with_reducible rfl
      try simp only [Act.put, List.getElem_toArray, List.getElem_cons_zero, List.getElem_cons_succ, List.setIfInBounds_toArray, List.set_cons_zero, List.set_cons_succ]
      refine wpAnyY_take (i := 7) (v := ?_) rfl (by kernel_rfl) (by kernel_rfl) (by kernel_rfl) (by kernel_rfl) (fun _ _ _ h => h) (Or.inl ⟨by kernel_rfl, ?_⟩) hS ?_
      rotate_left
      · intro w' hSw; obtain ⟨⟨a0, a1, a2, la⟩, b0, b1, b2, lb⟩ := hSw; go_simp; with_reducible rfl
      try simp only [Act.put, List.getElem_toArray, List.getElem_cons_zero, List.getElem_cons_succ, List.setIfInBounds_toArray, List.set_cons_zero, List.set_cons_succ]
      refine wpAnyY_oneW (i := 8) (by kernel_rfl) rfl (by kernel_rfl) (by kernel_rfl) (fun K8 hK8 => ?_)
      go_simp
      refine hK8.out _ _ ?_
      clear hK8
      try simp only [Act.put, List.getElem_toArray, List.getElem_cons_zero, List.getElem_cons_succ, List.setIfInBounds_toArray, List.set_cons_zero, List.set_cons_succ]
      refine wpAnyY_done (by kernel_rfl) ?_ _
      clear hS hSk
      go_wp2_with fail
      go_roundw
      case rel => exact ⟨k + 1, by omega, by go_num, hG.t ga⟩
      case measure => simp [intOf] <;> omega
    · obtain rfl : k = l.length := by omega
      have hki : ¬ ((l.length : Nat) : Int) < l.length := by omega
      go_wp2_with fail
      go_ret
      exact ⟨rfl, hG⟩
set_option maxRecDepth 100000 in
set_option maxHeartbeats 4000000 in
theorem same27_any (l : List Pu) (a b : Option Addr) (c d : Nat) (w : World) (h1 : RowE Pu.v 3 w a l) (h2 : RowE Pu.v 3 w b l) (hl : l.length ≤ 1000) : Calls Tryz.prog 27 #[.slice a l.length c, .slice b l.length d] w fun e w' => e = .returned (.bool true) ∧ G w w' := by
  go_enter Tryz.func27, Tryz.ntmps27
  go_wp2_with fail
  go_loopw [5] (fun i wr => ∃ k : Nat, k ≤ l.length ∧ i = .int .i64 k ∧ G w wr) (fun i _ => l.length - (intOf i).toNat)
  case atStart => exact ⟨0, Nat.zero_le _, rfl, G.rf _⟩
  case round =>
    obtain ⟨k, hk, rfl, hG⟩ := hrel
    obtain ⟨wo, rfl⟩ : ∃ wo, wo = wr := ⟨_, rfl⟩
    by_cases hlt : k < l.length
    · have hki : (k : Int) < l.length := by omega
      rcases h1 with h | ⟨g1, o1, rfl, hg1, hc1⟩
      · omega
      rcases h2 with h | ⟨g2, o2, rfl, hg2, hc2⟩
      · omega
      have e1 := hc1 k hlt
      have e2 := hc2 k hlt
      obtain ⟨y, hy⟩ : ∃ y, y = l.getD k default := ⟨_, rfl⟩
      rw [← hy] at e1 e2
      clear hy hc1 hc2
      obtain ⟨x0, x1, x2⟩ := y
      unfold Pu.v at e1 e2
      have hSk : ∀ W', G wo W' → (W'.cell? ⟨g1, o1 + k * 3, none⟩ = some (.int .i64 x0) ∧ W'.cell? ⟨g1, o1 + k * 3 + 1, none⟩ = some (.int .i64 x1) ∧ W'.cell? ⟨g1, o1 + k * 3 + 2, none⟩ = some (.int .i64 x2) ∧ g1 < W'.heap.size) ∧ W'.cell? ⟨g2, o2 + k * 3, none⟩ = some (.int .i64 x0) ∧ W'.cell? ⟨g2, o2 + k * 3 + 1, none⟩ = some (.int .i64 x1) ∧ W'.cell? ⟨g2, o2 + k * 3 + 2, none⟩ = some (.int .i64 x2) ∧ g2 < W'.heap.size := fun W' hW => ⟨⟨((bcellB (hG.t hW)).1 g1 _ hg1).trans (e1 0 (by omega)), ((bcellB (hG.t hW)).1 g1 _ hg1).trans (e1 1 (by omega)), ((bcellB (hG.t hW)).1 g1 _ hg1).trans (e1 2 (by omega)), Nat.lt_of_lt_of_le hg1 (hG.t hW).size⟩, ((bcellB (hG.t hW)).1 g2 _ hg2).trans (e2 0 (by omega)), ((bcellB (hG.t hW)).1 g2 _ hg2).trans (e2 1 (by omega)), ((bcellB (hG.t hW)).1 g2 _ hg2).trans (e2 2 (by omega)), Nat.lt_of_lt_of_le hg2 (hG.t hW).size⟩
      clear e1 e2
      have hnq := neq47
      go_upto_region 6 with fail
      refine wp_region_Y (S := fun W' => (W'.cell? ⟨g1, o1 + k * 3, none⟩ = some (.int .i64 x0) ∧ W'.cell? ⟨g1, o1 + k * 3 + 1, none⟩ = some (.int .i64 x1) ∧ W'.cell? ⟨g1, o1 + k * 3 + 2, none⟩ = some (.int .i64 x2) ∧ g1 < W'.heap.size) ∧ W'.cell? ⟨g2, o2 + k * 3, none⟩ = some (.int .i64 x0) ∧ W'.cell? ⟨g2, o2 + k * 3 + 1, none⟩ = some (.int .i64 x1) ∧ W'.cell? ⟨g2, o2 + k * 3 + 2, none⟩ = some (.int .i64 x2) ∧ g2 < W'.heap.size) 8 9 rfl (by kernel_rfl) (hSk _ (G.rf _).d) (fun hS => ?_)
      have ga := (G.rf wo).d
      refine wpAnyY_take (i := 0) (v := ?_) rfl (by kernel_rfl) (by kernel_rfl) (by kernel_rfl) (by kernel_rfl) (fun _ _ _ h => h) (Or.inl ⟨by kernel_rfl, ?_⟩) hS ?_
      rotate_left
      · intro w' hSw; go_simp; with_reducible rfl
      try simp only [Act.put, List.getElem_toArray, List.getElem_cons_zero, List.getElem_cons_succ, List.setIfInBounds_toArray, List.set_cons_zero, List.set_cons_succ]
      refine wpAnyY_take (i := 1) (v := ?_) rfl (by kernel_rfl) (by kernel_rfl) (by kernel_rfl) (by kernel_rfl) (fun _ _ _ h => h) (Or.inl ⟨by kernel_rfl, ?_⟩) hS ?_
      rotate_left
      · intro w' hSw; go_simp; with_reducible rfl
      try simp only [Act.put, List.getElem_toArray, List.getElem_cons_zero, List.getElem_cons_succ, List.setIfInBounds_toArray, List.set_cons_zero, List.set_cons_succ]
      refine wpAnyY_take (i := 2) (v := ?_) rfl (by kernel_rfl) (by kernel_rfl) (by kernel_rfl) (by kernel_rfl) (fun _ _ _ h => h) (Or.inl ⟨by kernel_rfl, ?_⟩) hS ?_
      rotate_left
      · intro w' hSw; obtain ⟨⟨a0, a1, a2, la⟩, b0, b1, b2, lb⟩ := hSw; go_simp; with_reducible rfl
      try simp only [Act.put, List.getElem_toArray, List.getElem_cons_zero, List.getElem_cons_succ, List.setIfInBounds_toArray, List.set_cons_zero, List.set_cons_succ]
      refine wpAnyY_take (i := 3) (v := ?_) rfl (by kernel_rfl) (by kernel_rfl) (by kernel_rfl) (by kernel_rfl) (fun _ _ _ h => h) (Or.inl ⟨by kernel_rfl, ?_⟩) hS ?_
      rotate_left
      · intro w' hSw; obtain ⟨⟨a0, a1, a2, la⟩, b0, b1, b2, lb⟩ := hSw; go_simp; with_reducible rfl
      try simp only [Act.put, List.getElem_toArray, List.getElem_cons_zero, List.getElem_cons_succ, List.setIfInBounds_toArray, List.set_cons_zero, List.set_cons_succ]
      refine wpAnyY_take (i := 4) (v := ?_) rfl (by kernel_rfl) (by kernel_rfl) (by kernel_rfl) (by kernel_rfl) (fun _ _ _ h => h) (Or.inl ⟨by kernel_rfl, ?_⟩) hS ?_
      rotate_left
      · intro w' hSw; go_simp; with_reducible rfl
      try simp only [Act.put, List.getElem_toArray, List.getElem_cons_zero, List.getElem_cons_succ, List.setIfInBounds_toArray, List.set_cons_zero, List.set_cons_succ]
      refine wpAnyY_take (i := 5) (v := ?_) rfl (by kernel_rfl) (by kernel_rfl) (by kernel_rfl) (by kernel_rfl) (fun _ _ _ h => h) (Or.inl ⟨by kernel_rfl, ?_⟩) hS ?_
      rotate_left
      · intro w' hSw; go_simp; with_reducible rfl
      try simp only [Act.put, List.getElem_toArray, List.getElem_cons_zero, List.getElem_cons_succ, List.setIfInBounds_toArray, List.set_cons_zero, List.set_cons_succ]
      refine wpAnyY_take (i := 6) (v := ?_) rfl (by kernel_rfl) (by kernel_rfl) (by kernel_rfl) (by kernel_rfl) (fun _ _ _ h => h) (Or.inl ⟨by kernel_rfl, ?_⟩) hS ?_
      rotate_left
      · intro w' hSw; obtain ⟨⟨a0, a1, a2, la⟩, b0, b1, b2, lb⟩ := hSw; go_simp; with_reducible rfl
      try simp only [Act.put, List.getElem_toArray, List.getElem_cons_zero, List.getElem_cons_succ, List.setIfInBounds_toArray, List.set_cons_zero, List.set_cons_succ]
      refine wpAnyY_take (i := 7) (v := ?_) rfl (by kernel_rfl) (by kernel_rfl) (by kernel_rfl) (by kernel_rfl) (fun _ _ _ h => h) (Or.inl ⟨by kernel_rfl, ?_⟩) hS ?_
      rotate_left
      · intro w' hSw; obtain ⟨⟨a0, a1, a2, la⟩, b0, b1, b2, lb⟩ := hSw; go_simp; with_reducible rfl
      try simp only [Act.put, List.getElem_toArray, List.getElem_cons_zero, List.getElem_cons_succ, List.setIfInBounds_toArray, List.set_cons_zero, List.set_cons_succ]
      refine wpAnyY_oneW (i := 8) (by kernel_rfl) rfl (by kernel_rfl) (by kernel_rfl) (fun K8 hK8 => ?_)
      go_simp
      refine hK8.out _ _ ?_
      clear hK8
      try simp only [Act.put, List.getElem_toArray, List.getElem_cons_zero, List.getElem_cons_succ, List.setIfInBounds_toArray, List.set_cons_zero, List.set_cons_succ]
      refine wpAnyY_done (by kernel_rfl) ?_ _
      clear hS hSk
      go_wp2_with fail
      go_roundw
      case rel => exact ⟨k + 1, by omega, by go_num, hG.t ga⟩
      case measure => simp [intOf] <;> omega
    · obtain rfl : k = l.length := by omega
      have hki : ¬ ((l.length : Nat) : Int) < l.length := by omega
      go_wp2_with fail
      go_ret
      exact ⟨rfl, hG⟩
end Go.Proofs.YtnkmcoljijmgpaaGreat

set_option linter.unusedSimpArgs false
set_option linter.unusedVariables false
namespace Go.Proofs.YtnkmcoljijmgpaaGreat
open Go.RowKit Go.Shelf Go.Sort Go.Maps
attribute [local go_sem] Oper.semAt_some
theorem getQ {l l' : List Rc} (h : l.map rcQ = l'.map rcQ) (i : Nat) : rcQ (l.getD i default) = rcQ (l'.getD i default) := by
  have e := congrArg (fun m => m[i]?) h
  simp only [List.getElem?_map] at e
  rw [List.getD_eq_getElem?_getD, List.getD_eq_getElem?_getD]
  cases h1 : l[i]? <;> cases h2 : l'[i]? <;> rw [h1, h2] at e <;> simp at e ⊢
  exact e
end Go.Proofs.YtnkmcoljijmgpaaGreat

set_option linter.unusedSimpArgs false
set_option linter.unusedVariables false
namespace Go.Proofs.YtnkmcoljijmgpaaGreat
open Go.RowKit Go.Shelf Go.ChangeShapes Go.WideShapes Go.ChangeAt
attribute [local go_sem] Oper.semAt_some
set_option maxRecDepth 100000
section
variable {H : Type} {enc : TypeId × Value → H} {w : World} {fuel : Nat}
theorem ints_ofCN {cs : List Value} {x : DataW H × List MemPlace} (h : DataW.trod enc Tryz.prog w 0 (fun _ => true) true fuel 24 cs = some x) :
    ∃ (a : Option Addr) (cap : Nat) (l : List Int), cs = [.slice a l.length cap] ∧ (IntsAt w a l ∧ (a = none → cap = 0)) ∧ l.length ≤ cap := by
  rcases open_ints Tryz.underlying24 Tryz.underlying3 k3 h with ⟨rfl, _⟩ | ⟨a, len, cap, zs, rfl, hlc, hl, hm, hz, _, hcell, _⟩
  · exact ⟨none, 0, [], rfl, ⟨.inl rfl, fun _ => rfl⟩, by simp⟩
  · simp at hz
    have hlen : (zs.take len).length = len := by simp; omega
    refine ⟨some a, cap, zs.take len, by rw [hlen], ⟨?_, fun h => by cases h⟩, by omega⟩
    rcases Nat.eq_zero_or_pos len with h0 | h0
    · left; simp [h0]
    · right
      have c0 := hcell 0 (by omega)
      obtain ⟨b, off, spot⟩ := a
      have hspot : spot = none := by simpa [Addr.add] using World.cell?_spot c0
      subst hspot
      refine ⟨b, off, rfl, lt_of_cell (by simpa [Addr.add] using c0), fun k hk => ?_⟩
      have ck := hcell k (by omega)
      have hk2 : k < len := by omega
      have hk3 : k < zs.length := by omega
      rw [add_none] at ck
      simp [hk3] at ck
      simp [hk2, hk3, ck]
theorem racer_ofN {cs : List Value} {x : DataW H × List MemPlace} (h : DataW.trod enc Tryz.prog w 0 (fun _ => true) true fuel 60 cs = some x) :
    ∃ y : Rc, cs = y.v.toList ∧ (IntsAt w y.pa y.pools ∧ (y.pa = none → y.pc = 0)) := by
  obtain ⟨xs, n, _, rfl, hl, hlen, hf⟩ := DataW.trod_struct Tryz.underlying60 h
  rw [k60] at hl
  match cs, hl, xs, hlen with
  | [c0, c1, c2, c3, c4], _, [y0, y1, y2, y3, y4], _ =>
    have h0 := hf 0 _ rfl
    have h1 := hf 1 _ rfl
    have h2 := hf 2 _ rfl
    have h3 := hf 3 _ rfl
    have h4 := hf 4 _ rfl
    simp [k3, k24] at h0 h1 h2 h3 h4
    obtain ⟨a0, e0, _, _⟩ := DataW.trod_int Tryz.underlying3 h0
    obtain ⟨a1, e1, _, _⟩ := DataW.trod_int Tryz.underlying3 h1
    obtain ⟨a2, e2, _, _⟩ := DataW.trod_int Tryz.underlying3 h2
    obtain ⟨a3, e3, _, _⟩ := DataW.trod_int Tryz.underlying3 h3
    obtain ⟨ea, ec, l, e4, g4, _⟩ := ints_ofCN h4
    simp at e0 e1 e2 e3 e4
    subst e0 e1 e2 e3 e4
    exact ⟨⟨a0, a1, a2, a3, ea, ec, l⟩, rfl, g4⟩
theorem pool_of8N {cs : List Value} {x : DataW H × List MemPlace} (h : DataW.trod enc Tryz.prog w 0 (fun _ => true) true fuel 42 cs = some x) :
    ∃ y : Po, cs = y.v.toList ∧ (IntsAt w y.ta y.table ∧ (y.ta = none → y.tc = 0)) := by
  obtain ⟨xs, n, _, rfl, hl, hlen, hf⟩ := DataW.trod_struct Tryz.underlying42 h
  rw [k42] at hl
  match cs, hl, xs, hlen with
  | [c0, c1, c2, c3, c4, c5], _, [y0, y1, y2, y3, y4, y5], _ =>
    have h0 := hf 0 _ rfl
    have h1 := hf 1 _ rfl
    have h2 := hf 2 _ rfl
    have h3 := hf 3 _ rfl
    have h4 := hf 4 _ rfl
    have h5 := hf 5 _ rfl
    simp [k3, k24, k4] at h0 h1 h2 h3 h4 h5
    obtain ⟨a0, e0, _, _⟩ := DataW.trod_int Tryz.underlying3 h0
    obtain ⟨a1, e1, _, _⟩ := DataW.trod_int Tryz.underlying3 h1
    obtain ⟨a2, e2, _, _⟩ := DataW.trod_int Tryz.underlying3 h2
    obtain ⟨ea, ec, l, e3, g3, _⟩ := ints_ofCN h3
    obtain ⟨a4, e4, _, _⟩ := DataW.trod_int Tryz.underlying3 h4
    obtain ⟨b5, e5, _⟩ := DataW.trod_bool Tryz.underlying4 h5
    simp at e0 e1 e2 e3 e4 e5
    subst e0 e1 e2 e3 e4 e5
    exact ⟨⟨a0, a1, a2, ea, ec, l, a4, b5⟩, rfl, g3⟩
end
section
variable {H : Type} {enc : TypeId × Value → H} {w : World} {fuel : Nat}
theorem racers_ofN {cs : List Value} {x : DataW H × List MemPlace} (h : DataW.trod enc Tryz.prog w 0 (fun _ => true) true fuel 22 cs = some x) :
    ∃ (a : Option Addr) (cap : Nat) (l : List Rc), cs = [.slice a l.length cap] ∧ (RcsAt w a l ∧ ∀ i, i < l.length → (l.getD i default).pa = none → (l.getD i default).pc = 0) ∧ l.length ≤ cap := by
  rcases Deep.open_slice Tryz.underlying22 h with ⟨rfl, _⟩ | ⟨a, len, cap, m, n, D, Pl, rfl, hlc, hl, hm, hmm, _, hel⟩
  · exact ⟨none, 0, [], rfl, ⟨⟨.inl rfl, fun i hi => by simp at hi⟩, fun i hi => by simp at hi⟩, by simp⟩
  · simp at hmm
    rcases Nat.eq_zero_or_pos len with h0 | h0
    · subst h0
      exact ⟨some a, cap, [], rfl, ⟨⟨.inl rfl, fun i hi => by simp at hi⟩, fun i hi => by simp at hi⟩, by simp⟩
    · have hspot : a.spot = none := by
        obtain ⟨cs', h1, h2⟩ := hel 0 (by omega)
        obtain ⟨s, rfl, _⟩ := racer_ofN h2
        obtain ⟨_, _, hc⟩ := World.cells?_some h1
        rw [k60] at hc
        have c0 := hc 0 (by omega)
        simpa [Addr.add] using World.cell?_spot c0
      obtain ⟨b, off, spot⟩ := a
      simp only at hspot
      subst hspot
      have key : ∀ i, ∃ s : Rc, i < len → (∀ r, r < 5 → w.cell? ⟨b, off + i * 5 + r, none⟩ = s.v[r]?) ∧ (IntsAt w s.pa s.pools ∧ (s.pa = none → s.pc = 0)) := fun i => by
        by_cases hi : i < len
        · obtain ⟨cs', h1, h2⟩ := hel i (by omega)
          obtain ⟨s, rfl, hs⟩ := racer_ofN h2
          obtain ⟨_, _, hc⟩ := World.cells?_some h1
          rw [k60] at hc
          simp only [add_none] at hc
          refine ⟨s, fun _ => ⟨fun r hr => ?_, hs⟩⟩
          have := hc r hr
          rw [this]
          obtain ⟨s0, s1, s2, s3, s4, s5, s6⟩ := s
          match r, hr with
          | 0, _ => rfl
          | 1, _ => rfl
          | 2, _ => rfl
          | 3, _ => rfl
          | 4, _ => rfl
        · exact ⟨default, fun h => absurd h hi⟩
      obtain ⟨f, hf⟩ := Classical.axiomOfChoice key
      have hlen : ((List.range len).map f).length = len := by simp
      have hget : ∀ k, k < len → ((List.range len).map f).getD k default = f k := fun k hk => by simp [List.getD_eq_getElem?_getD, hk]
      refine ⟨some ⟨b, off, none⟩, cap, (List.range len).map f, by rw [hlen], ⟨⟨.inr ⟨b, off, rfl, lt_of_cell ((hf 0 h0).1 0 (by omega)), fun k hk r hr => ?_⟩, fun k hk => ?_⟩, fun k hk => ?_⟩, by omega⟩
      · rw [hlen] at hk
        rw [hget k hk]
        exact (hf k hk).1 r hr
      · rw [hlen] at hk
        rw [hget k hk]
        exact (hf k hk).2.1
      · rw [hlen] at hk
        rw [hget k hk]
        exact (hf k hk).2.2
end
section
variable {H : Type} {enc : TypeId × Value → H} {w : World} {fuel : Nat}
theorem pools_of8N {cs : List Value} {x : DataW H × List MemPlace} (h : DataW.trod enc Tryz.prog w 0 (fun _ => true) true fuel 23 cs = some x) :
    ∃ (a : Option Addr) (cap : Nat) (l : List Po), cs = [.slice a l.length cap] ∧ (PosAt w a l ∧ ∀ i, i < l.length → (l.getD i default).ta = none → (l.getD i default).tc = 0) ∧ l.length ≤ cap := by
  rcases Deep.open_slice Tryz.underlying23 h with ⟨rfl, _⟩ | ⟨a, len, cap, m, n, D, Pl, rfl, hlc, hl, hm, hmm, _, hel⟩
  · exact ⟨none, 0, [], rfl, ⟨⟨.inl rfl, fun i hi => by simp at hi⟩, fun i hi => by simp at hi⟩, by simp⟩
  · simp at hmm
    rcases Nat.eq_zero_or_pos len with h0 | h0
    · subst h0
      exact ⟨some a, cap, [], rfl, ⟨⟨.inl rfl, fun i hi => by simp at hi⟩, fun i hi => by simp at hi⟩, by simp⟩
    · have hspot : a.spot = none := by
        obtain ⟨cs', h1, h2⟩ := hel 0 (by omega)
        obtain ⟨s, rfl, _⟩ := pool_of8N h2
        obtain ⟨_, _, hc⟩ := World.cells?_some h1
        rw [k42] at hc
        have c0 := hc 0 (by omega)
        simpa [Addr.add] using World.cell?_spot c0
      obtain ⟨b, off, spot⟩ := a
      simp only at hspot
      subst hspot
      have key : ∀ i, ∃ s : Po, i < len → (∀ r, r < 6 → w.cell? ⟨b, off + i * 6 + r, none⟩ = s.v[r]?) ∧ (IntsAt w s.ta s.table ∧ (s.ta = none → s.tc = 0)) := fun i => by
        by_cases hi : i < len
        · obtain ⟨cs', h1, h2⟩ := hel i (by omega)
          obtain ⟨s, rfl, hs⟩ := pool_of8N h2
          obtain ⟨_, _, hc⟩ := World.cells?_some h1
          rw [k42] at hc
          simp only [add_none] at hc
          refine ⟨s, fun _ => ⟨fun r hr => ?_, hs⟩⟩
          have := hc r hr
          rw [this]
          obtain ⟨s0, s1, s2, s3, s4, s5, s6, s7⟩ := s
          match r, hr with
          | 0, _ => rfl
          | 1, _ => rfl
          | 2, _ => rfl
          | 3, _ => rfl
          | 4, _ => rfl
          | 5, _ => rfl
        · exact ⟨default, fun h => absurd h hi⟩
      obtain ⟨f, hf⟩ := Classical.axiomOfChoice key
      have hlen : ((List.range len).map f).length = len := by simp
      have hget : ∀ k, k < len → ((List.range len).map f).getD k default = f k := fun k hk => by simp [List.getD_eq_getElem?_getD, hk]
      refine ⟨some ⟨b, off, none⟩, cap, (List.range len).map f, by rw [hlen], ⟨⟨.inr ⟨b, off, rfl, lt_of_cell ((hf 0 h0).1 0 (by omega)), fun k hk r hr => ?_⟩, fun k hk => ?_⟩, fun k hk => ?_⟩, by omega⟩
      · rw [hlen] at hk
        rw [hget k hk]
        exact (hf k hk).1 r hr
      · rw [hlen] at hk
        rw [hget k hk]
        exact (hf k hk).2.1
      · rw [hlen] at hk
        rw [hget k hk]
        exact (hf k hk).2.2
end
theorem race_ofN {H : Type} {enc : TypeId × Value → H} {w : World} {v : Value} {d : DataW H} {p : List MemPlace} {r : Reach} {b0 : Nat} (hv : Value.okWide Tryz.prog w r b0 26 v) (h : DataW.Trod enc Tryz.prog w 0 (fun _ => true) true 26 v d p) :
    ∃ R : Ra, v = .agg R.v ∧ R.Laid w ∧ R.Nil := by
  obtain ⟨cs, rfl, hsz⟩ := okWide_struct Tryz.underlying26 hv
  rw [k26] at hsz
  obtain ⟨l⟩ := cs
  obtain ⟨fuel, hf0⟩ := h
  obtain ⟨xs, n, _, _, hl, hlen, hf⟩ := DataW.trod_struct Tryz.underlying26 hf0
  match l, hsz, xs, hlen with
  | [c0, c1, c2], _, [y0, y1, y2], _ =>
    have h0 := hf 0 _ rfl
    have h1 := hf 1 _ rfl
    have h2 := hf 2 _ rfl
    simp [k24, k22p, k23p, Value.cells] at h0 h1 h2
    obtain ⟨ra, rc, racers, e0, g0, m0⟩ := racers_ofN h0
    obtain ⟨pa, pc, pools, e1, g1, m1⟩ := pools_of8N h1
    obtain ⟨ta, tc, prots, e2, g2, m2⟩ := ints_ofCN h2
    simp at e0 e1 e2
    subst e0 e1 e2
    exact ⟨⟨ra, rc, racers, pa, pc, pools, ta, tc, prots⟩, rfl, ⟨g0.1, g1.1, g2.1, m0, m2⟩, g2.2, g0.2, g1.2⟩
end Go.Proofs.YtnkmcoljijmgpaaGreat

set_option linter.unusedSimpArgs false
set_option linter.unusedVariables false
namespace Go.Proofs.YtnkmcoljijmgpaaGreat
open Go.RowKit Go.Shelf Go.Sort Go.Maps
attribute [local go_sem] Oper.semAt_some
/-- the same purses, in whatever order -/
def PSim (ps qs : List Pu) : Prop := (∀ x : Int, ps.any (fun p => p.owner == x) = qs.any fun p => p.owner == x) ∧ ∀ x, atP ps x = atP qs x
theorem find_map (q : Pu) (x : Int) : ∀ ps : List Pu, (ps.map fun p => if p.owner = q.owner then q else p).find? (fun p => p.owner == x) = if q.owner = x then (if ps.any (fun p => p.owner == x) = true then some q else none) else ps.find? fun p => p.owner == x
  | [] => by simp
  | a :: l => by
    have ih := find_map q x l
    rw [List.map_cons, List.find?_cons, ih, List.find?_cons, List.any_cons]
    by_cases h1 : a.owner = q.owner
    · rw [if_pos h1]
      by_cases h2 : q.owner = x
      · have h3 : (q.owner == x) = true := by simpa using h2
        have h4 : (a.owner == x) = true := by simp [h1, h2]
        rw [h3, h4, if_pos h2, Bool.true_or, if_pos rfl, if_pos h2]
      · have h3 : (q.owner == x) = false := by simpa using h2
        have h4 : (a.owner == x) = false := by simp [h1, h2]
        rw [h3, h4, if_neg h2]
        simp [h2]
    · rw [if_neg h1]
      by_cases h2 : q.owner = x
      · have h4 : (a.owner == x) = false := by
          simp only [beq_eq_false_iff_ne]
          exact fun e => h1 (e.trans h2.symm)
        rw [h4, if_pos h2]
        simp [h2]
      · rw [if_neg h2]
        cases h4 : (a.owner == x) <;> simp [h2]
theorem atP_put (ps : List Pu) (q : Pu) (x : Int) : atP (putP ps q) x = if q.owner = x then q else atP ps x := by
  unfold atP putP
  by_cases h : ps.any (fun p => p.owner == q.owner) = true
  · rw [if_pos h, find_map]
    by_cases h2 : q.owner = x
    · subst h2
      rw [if_pos rfl, if_pos h, if_pos rfl]
    · rw [if_neg h2, if_neg h2]
  · rw [if_neg h, List.find?_append]
    have h' : ps.any (fun p => p.owner == q.owner) = false := by simpa using h
    by_cases h2 : q.owner = x
    · subst h2
      have h3 : ps.find? (fun p => p.owner == q.owner) = none := by
        rw [List.find?_eq_none]
        intro y hy
        have := List.any_eq_false.1 h' y hy
        exact this
      rw [h3, if_pos rfl]
      simp
    · rw [if_neg h2]
      have h3 : (q.owner == x) = false := by simpa using h2
      cases h4 : ps.find? (fun p => p.owner == x) <;> simp [h3]
theorem PSim.put {ps qs : List Pu} (h : PSim ps qs) (q : Pu) : PSim (putP ps q) (putP qs q) := ⟨fun x => by rw [putP_any, putP_any, h.1], fun x => by rw [atP_put, atP_put, h.2]⟩
theorem PSim.srt {ps qs : List Pu} (h : PSim ps qs) (hu : UniqP ps) (hv : UniqP qs) : srtP ps = srtP qs := by
  have at_mem : ∀ {l : List Pu}, UniqP l → ∀ p ∈ l, l.any (fun q => q.owner == p.owner) = true ∧ atP l p.owner = p := fun {l} hl p hp => by
    refine ⟨List.any_eq_true.2 ⟨p, hp, by simp⟩, ?_⟩
    unfold atP
    cases hf : l.find? fun q => q.owner == p.owner with
    | none => exact absurd (by simp) (List.find?_eq_none.1 hf p hp)
    | some q => exact uniqP_eq hl (List.mem_of_find?_eq_some hf) hp (by simpa using List.find?_some hf)
  have mem_at : ∀ {l : List Pu} (x : Int), l.any (fun q => q.owner == x) = true → atP l x ∈ l := fun {l} x hx => by
    unfold atP
    cases hf : l.find? fun q => q.owner == x with
    | none =>
      obtain ⟨q, hq, he⟩ := List.any_eq_true.1 hx
      exact absurd he (List.find?_eq_none.1 hf q hq)
    | some q => exact List.mem_of_find?_eq_some hf
  have nd : ∀ {l : List Pu}, UniqP l → l.Nodup := fun {l} hl => List.Pairwise.imp (fun {a b} hab e => hab (by rw [e])) hl
  have hp : ps.Perm qs := (List.perm_ext_iff_of_nodup (nd hu) (nd hv)).2 fun p => ⟨fun hp => by
    obtain ⟨h1, h2⟩ := at_mem hu p hp
    rw [h.1] at h1
    rw [h.2] at h2
    have := mem_at p.owner h1
    rwa [h2] at this, fun hp => by
    obtain ⟨h1, h2⟩ := at_mem hv p hp
    rw [← h.1] at h1
    rw [← h.2] at h2
    have := mem_at p.owner h1
    rwa [h2] at this⟩
  exact srtP_unique hv ((srtP_perm ps).trans hp) (srtP_pw ps)
theorem pu0_uniq (l : List Rc) : ∀ k, UniqP (pu0 l k)
  | 0 => List.Pairwise.nil
  | k + 1 => putP_uniq (pu0_uniq l k) _
theorem puIn_uniq (f : Fu) {acc : List Pu} (h : UniqP acc) : ∀ j, UniqP (puIn f acc j)
  | 0 => h
  | j + 1 => putP_uniq (puIn_uniq f h j) _
theorem puTo_uniq (r : Ra) : ∀ k, UniqP (puTo r k)
  | 0 => pu0_uniq _ _
  | k + 1 => puIn_uniq _ (puTo_uniq r k) _
theorem pu0_any (l : List Rc) (x : Int) : ∀ k, k ≤ l.length → (pu0 l k).any (fun p => p.owner == x) = ((l.take k).any fun y => y.owner == x) ∧ atP (pu0 l k) x = if ((l.take k).any fun y => y.owner == x) = true then ⟨x, 0, 0⟩ else ⟨0, 0, 0⟩
  | 0, _ => ⟨rfl, rfl⟩
  | k + 1, hk => by
    obtain ⟨h1, h2⟩ := pu0_any l x k (by omega)
    have e : l.take (k + 1) = l.take k ++ [l.getD k default] := by
      rw [List.take_add_one, List.getD_eq_getElem?_getD, List.getElem?_eq_getElem (by omega)]
      rfl
    unfold pu0
    rw [putP_any, atP_put, h1, h2, e, List.any_append]
    refine ⟨by simp, ?_⟩
    dsimp only
    by_cases h3 : (l.getD k default).owner = x
    · rw [if_pos h3, h3]
      have h4 : ([l.getD k default].any fun y => y.owner == x) = true := by simpa using h3
      rw [h4, Bool.or_true, if_pos rfl]
    · rw [if_neg h3]
      have h4 : ([l.getD k default].any fun y => y.owner == x) = false := by simpa using h3
      rw [h4, Bool.or_false]
theorem pu0_sim {l l' : List Rc} (h : ∀ x : Int, (l.any fun y => y.owner == x) = l'.any fun y => y.owner == x) : PSim (pu0 l l.length) (pu0 l' l'.length) := by
  refine ⟨fun x => ?_, fun x => ?_⟩
  · rw [(pu0_any l x _ (Nat.le_refl _)).1, (pu0_any l' x _ (Nat.le_refl _)).1, List.take_length, List.take_length, h]
  · rw [(pu0_any l x _ (Nat.le_refl _)).2, (pu0_any l' x _ (Nat.le_refl _)).2, List.take_length, List.take_length, h]
theorem puIn_sim {f g : Fu} (hp : poP f.po = poP g.po) (hr : f.rs.map rcQ = g.rs.map rcQ) {acc acc' : List Pu} (h : PSim acc acc') : ∀ j, PSim (puIn f acc j) (puIn g acc' j)
  | 0 => h
  | j + 1 => by
    have ih := puIn_sim hp hr h j
    have e1 := getQ hr j
    unfold rcQ at e1
    simp only [Prod.mk.injEq] at e1
    have e2 : f.po.stake = g.po.stake := congrArg Prod.fst hp
    unfold puIn
    rw [e1.2.1, e2, prizesP hp (K_of_Q hr), ih.2]
    exact ih.put _
theorem puTo_sim {r o : Ra} (h : REq r o) : ∀ k, PSim (puTo o k) (puTo r k)
  | 0 => pu0_sim h.ow
  | k + 1 => by
    have e : (runners o k).length = (runners r k).length := by
      have := congrArg List.length (h.rs k)
      simpa using this
    unfold puTo
    rw [e]
    exact puIn_sim (h.po _) (h.rs _) (puTo_sim h k) _
theorem pursesE {r o : Ra} (h : REq r o) : pursesL o = pursesL r := by
  unfold pursesL
  rw [h.len]
  exact (puTo_sim h _).srt (puTo_uniq _ _) (puTo_uniq _ _)
end Go.Proofs.YtnkmcoljijmgpaaGreat

set_option linter.unusedSimpArgs false
set_option linter.unusedVariables false
namespace Go.Proofs.YtnkmcoljijmgpaaGreat
open Go.RowKit Go.Shelf Go.Sort Go.Maps
attribute [local go_sem] Oper.semAt_some
theorem inL_iff {l : List Int} {n : Int} : inL l n = true ↔ n ∈ l := by
  unfold inL anyU
  rw [List.any_eq_true]
  constructor
  · rintro ⟨i, hi, e⟩
    have hi' := List.mem_range.1 hi
    have e2 : n = l.getD i 0 := by simpa using e
    rw [e2, List.getD_eq_getElem?_getD, List.getElem?_eq_getElem hi']
    exact List.getElem_mem hi'
  · intro h
    obtain ⟨i, hi, rfl⟩ := List.mem_iff_getElem.1 h
    exact ⟨i, List.mem_range.2 hi, by simp [List.getD_eq_getElem?_getD, hi]⟩
end Go.Proofs.YtnkmcoljijmgpaaGreat

set_option linter.unusedSimpArgs false
set_option linter.unusedVariables false
namespace Go.Proofs.YtnkmcoljijmgpaaGreat
open Go.RowKit Go.Shelf Go.Sort Go.Maps
attribute [local go_sem] Oper.semAt_some
theorem prizesL_back (f : Fu) : (prizesL f).map Pz.back = (List.range f.rs.length).map fun i => shareI (resI f []) f.rs.length i := by
  unfold prizesL
  rw [List.map_map]
  rfl
theorem cent_back {f : Fu} (h : WonFacts f []) : ((prizesL f).map Pz.back).sum = resI f [] := by
  rw [prizesL_back]
  have h1 := h.le
  have h2 := h.pos
  by_cases h0 : f.rs.length = 0
  · rw [h0]
    have e : lefI f = 0 := by
      unfold lefI kepI totI
      rw [h0]
      simp
    unfold resI
    simp
    omega
  · exact share_sum _ _ (by unfold resI; omega) (by omega)
def sumF (F : Pu → Int) (ps : List Pu) : Int := (ps.map F).sum
theorem sumF_upd (F : Pu → Int) (q : Pu) : ∀ ps : List Pu, UniqP ps → (∃ p ∈ ps, p.owner = q.owner) → sumF F (ps.map fun p => if p.owner = q.owner then q else p) = sumF F ps - F (atP ps q.owner) + F q
  | [], _, h => by obtain ⟨p, hp, _⟩ := h; simp at hp
  | a :: l, hu, h => by
    unfold UniqP at hu
    rw [List.pairwise_cons] at hu
    unfold sumF
    rw [List.map_cons, List.map_cons, List.sum_cons, List.map_cons, List.sum_cons]
    by_cases e : a.owner = q.owner
    · have e1 : l.map (fun p => if p.owner = q.owner then q else p) = l := by
        conv => rhs; rw [← List.map_id l]
        refine List.map_congr_left fun x hx => ?_
        have := hu.1 x hx
        rw [if_neg (fun e2 => this (by rw [e, e2]))]
        rfl
      have e2 : atP (a :: l) q.owner = a := by
        unfold atP
        rw [List.find?_cons_of_pos (by simpa using e)]
      rw [e1, e2, if_pos e]
      omega
    · have e2 : atP (a :: l) q.owner = atP l q.owner := by
        unfold atP
        rw [List.find?_cons_of_neg (by simpa using e)]
      have ih := sumF_upd F q l hu.2 (by
        obtain ⟨p, hp, hq⟩ := h
        rcases List.mem_cons.1 hp with rfl | hp
        · exact absurd hq e
        · exact ⟨p, hp, hq⟩)
      unfold sumF at ih
      rw [e2, if_neg e, ih]
      omega
theorem sumF_put {F : Pu → Int} (hF : F ⟨0, 0, 0⟩ = 0) {ps : List Pu} (hu : UniqP ps) (q : Pu) : sumF F (putP ps q) = sumF F ps - F (atP ps q.owner) + F q := by
  unfold putP
  split
  · rename_i h
    refine sumF_upd F q ps hu ?_
    obtain ⟨p, hp, e⟩ := List.any_eq_true.1 h
    exact ⟨p, hp, by simpa using e⟩
  · rename_i h
    have e : atP ps q.owner = ⟨0, 0, 0⟩ := by
      unfold atP
      cases hf : ps.find? fun p => p.owner == q.owner with
      | none => rfl
      | some p => exact absurd (List.any_eq_true.2 ⟨p, List.mem_of_find?_eq_some hf, List.find?_some hf⟩) h
    rw [e, hF]
    unfold sumF
    rw [List.map_append, List.sum_append]
    simp
theorem atP_owner {ps : List Pu} {x : Int} (h : (ps.any fun p => p.owner == x) = true) : (atP ps x).owner = x := by
  unfold atP
  cases hf : ps.find? fun p => p.owner == x with
  | none =>
    obtain ⟨p, hp, e⟩ := List.any_eq_true.1 h
    exact absurd e (List.find?_eq_none.1 hf p hp)
  | some p => simpa using List.find?_some hf
theorem putP_len_in {ps : List Pu} {q : Pu} (h : (ps.any fun p => p.owner == q.owner) = true) : (putP ps q).length = ps.length := by
  unfold putP
  rw [if_pos h, List.length_map]
theorem pu0_facts (l : List Rc) : ∀ k, k ≤ l.length → UniqP (pu0 l k) ∧ (∀ i, i < k → ((pu0 l k).any fun p => p.owner == (l.getD i default).owner) = true) ∧ sumF Pu.staked (pu0 l k) = 0 ∧ sumF Pu.paid (pu0 l k) = 0 ∧ (∀ p ∈ pu0 l k, p.staked = 0 ∧ p.paid = 0) ∧ (pu0 l k).length ≤ k
  | 0, _ => ⟨List.Pairwise.nil, fun i h => by omega, rfl, rfl, fun p hp => by simp [pu0] at hp, Nat.le_refl _⟩
  | k + 1, hk => by
    obtain ⟨h1, h2, h3, h4, h5, h6⟩ := pu0_facts l k (by omega)
    have hz : ∀ x, (atP (pu0 l k) x).staked = 0 ∧ (atP (pu0 l k) x).paid = 0 := fun x => by
      unfold atP
      cases hf : (pu0 l k).find? fun p => p.owner == x with
      | none => exact ⟨rfl, rfl⟩
      | some p => exact h5 p (List.mem_of_find?_eq_some hf)
    unfold pu0
    refine ⟨putP_uniq h1 _, fun i hi => ?_, ?_, ?_, fun p hp => ?_, ?_⟩
    · rw [putP_any]
      by_cases e : i = k
      · subst e
        simp
      · rw [h2 i (by omega)]
        rfl
    · rw [sumF_put rfl h1, h3, (hz _).1]
      rfl
    · rw [sumF_put rfl h1, h4, (hz _).2]
      rfl
    · unfold putP at hp
      split at hp
      · obtain ⟨x, hx, rfl⟩ := List.mem_map.1 hp
        dsimp only
        split
        · exact ⟨rfl, rfl⟩
        · exact h5 x hx
      · rcases List.mem_append.1 hp with h | h
        · exact h5 p h
        · rw [List.mem_singleton.1 h]
          exact ⟨rfl, rfl⟩
    · unfold putP
      split
      · rw [List.length_map]; omega
      · rw [List.length_append, List.length_singleton]; omega
theorem puIn_facts {f : Fu} {l : List Rc} {n : Nat} {acc : List Pu} (h : PuF l n acc) (hs : ∀ x ∈ f.rs, x ∈ l) : ∀ j, j ≤ f.rs.length →
    PuF l n (puIn f acc j) ∧ sumF Pu.staked (puIn f acc j) = sumF Pu.staked acc + f.po.stake * j ∧ sumF Pu.paid (puIn f acc j) = sumF Pu.paid acc + (((prizesL f).map Pz.won).take j).sum + (((prizesL f).map Pz.back).take j).sum
  | 0, _ => ⟨h, by simp [puIn], by simp [puIn]⟩
  | j + 1, hj => by
    obtain ⟨h1, h2, h3⟩ := puIn_facts h hs j (by omega)
    have hx : f.rs.getD j default ∈ l := hs _ (by
      rw [List.getD_eq_getElem?_getD, List.getElem?_eq_getElem (by omega)]
      exact List.getElem_mem _)
    have ho := atP_owner (h1.all _ hx)
    have hpl : j < (prizesL f).length := by rw [prizesL_len]; omega
    have ew : (((prizesL f).map Pz.won).take (j + 1)).sum = (((prizesL f).map Pz.won).take j).sum + ((prizesL f).getD j default).won := by
      rw [List.take_add_one, List.sum_append, List.getElem?_map, List.getElem?_eq_getElem hpl, List.getD_eq_getElem?_getD, List.getElem?_eq_getElem hpl]
      simp
    have eb : (((prizesL f).map Pz.back).take (j + 1)).sum = (((prizesL f).map Pz.back).take j).sum + ((prizesL f).getD j default).back := by
      rw [List.take_add_one, List.sum_append, List.getElem?_map, List.getElem?_eq_getElem hpl, List.getD_eq_getElem?_getD, List.getElem?_eq_getElem hpl]
      simp
    have eo : (addP (atP (puIn f acc j) (f.rs.getD j default).owner) f.po.stake (((prizesL f).getD j default).won + ((prizesL f).getD j default).back)).owner = (f.rs.getD j default).owner := ho
    unfold puIn
    refine ⟨⟨putP_uniq h1.uniq _, fun x hx => ?_, ?_⟩, ?_, ?_⟩
    · rw [putP_any, h1.all x hx]
      rfl
    · rw [putP_len_in (by rw [eo]; exact h1.all _ hx)]
      exact h1.len
    · rw [sumF_put rfl h1.uniq, eo, h2]
      show _ - _ + ((atP (puIn f acc j) (f.rs.getD j default).owner).staked + f.po.stake) = _
      have e : f.po.stake * ((j + 1 : Nat) : Int) = f.po.stake * j + f.po.stake := by rw [Int.natCast_add, Int.mul_add]; simp
      rw [e]
      omega
    · rw [sumF_put rfl h1.uniq, eo, h3, ew, eb]
      show _ - _ + ((atP (puIn f acc j) (f.rs.getD j default).owner).paid + (((prizesL f).getD j default).won + ((prizesL f).getD j default).back)) = _
      omega
/-- sums over the first k pools -/
def sumK (F : Nat → Int) : Nat → Int
  | 0 => 0
  | k + 1 => sumK F k + F k
theorem puTo_facts {r : Ra} (hw : ∀ k, k < r.pools.length → WonFacts (fuOf r k none 0) []) (hu : ∀ k : Nat, Uniq (runners r k)) (hr : ∀ (k : Nat), ∀ x ∈ runners r k, x ∈ r.racers) : ∀ k, k ≤ r.pools.length →
    PuF r.racers r.racers.length (puTo r k) ∧ sumF Pu.staked (puTo r k) = sumK (fun i => totI (fuOf r i none 0)) k ∧ sumF Pu.paid (puTo r k) = sumK (fun i => lefI (fuOf r i none 0)) k
  | 0, _ => by
    obtain ⟨h1, h2, h3, h4, _, h6⟩ := pu0_facts r.racers _ (Nat.le_refl _)
    refine ⟨⟨h1, fun x hx => ?_, h6⟩, h3, h4⟩
    obtain ⟨i, hi, rfl⟩ := List.mem_iff_getElem.1 hx
    have := h2 i hi
    rwa [List.getD_eq_getElem?_getD, List.getElem?_eq_getElem hi] at this
  | k + 1, hk => by
    obtain ⟨h1, h2, h3⟩ := puTo_facts hw hu hr k (by omega)
    obtain ⟨a1, a2, a3⟩ := puIn_facts (f := fuOf r k none 0) h1 (hr k) _ (Nat.le_refl _)
    have hW := hw k (by omega)
    have c1 := cent_won hW (hu k)
    have c2 := cent_back hW
    rw [List.take_of_length_le (by rw [List.length_map, prizesL_len]; exact Nat.le_refl _), List.take_of_length_le (by rw [List.length_map, prizesL_len]; exact Nat.le_refl _), c1, c2] at a3
    refine ⟨a1, ?_, ?_⟩
    · show sumF Pu.staked (puIn (fuOf r k none 0) (puTo r k) (runners r k).length) = sumK _ k + totI (fuOf r k none 0)
      rw [show (runners r k).length = (fuOf r k none 0).rs.length from rfl, a2, h2]
      rfl
    · show sumF Pu.paid (puIn (fuOf r k none 0) (puTo r k) (runners r k).length) = sumK _ k + lefI (fuOf r k none 0)
      rw [show (runners r k).length = (fuOf r k none 0).rs.length from rfl, a3, h3]
      unfold resI
      omega
end Go.Proofs.YtnkmcoljijmgpaaGreat

set_option linter.unusedSimpArgs false
set_option linter.unusedVariables false
namespace Go.Proofs.YtnkmcoljijmgpaaGreat
open Go.RowKit Go.Shelf Go.Sort Go.Maps
attribute [local go_sem] Oper.semAt_some
def PrPostR (r : Ra) (p : Int) (w : World) (e : Ending) (w' : World) : Prop := G w w' ∧ ((qE r p [] ≠ 0 ∧ e = .returned (.tuple #[.slice none 0 0, .int .i64 (qE r p [])])) ∨ (qE r p [] = 0 ∧ ∃ v, e = .returned (.tuple #[v, .int .i64 0]) ∧ w'.ownsRow w.heap.size 40 3 v (prizesL (fuOf r p none 0)).length (cv Pz.v (prizesL (fuOf r p none 0)))))
set_option maxRecDepth 100000 in
set_option maxHeartbeats 4000000 in
theorem rPrizes_any (r : Ra) (p : Int) (w : World) (h : r.At w) : Calls Tryz.prog 38 #[.agg r.v, .int .i64 p] w (PrPostR r p w) := by
  have hrv : r.v = #[.slice r.ra r.racers.length r.rc, .slice r.pa r.pools.length r.pc, .slice r.ta r.protests.length r.tc] := rfl
  have HCK := Lib.hid (fun (W : World) (hW : G w W) => refc_any r p W (h.keep hW))
  have HE : Hid (qE r p [] ≠ 0 → ∀ W', G w W' → PrPostR r p w (.returned (.tuple #[.slice none 0 0, .int .i64 (qE r p [])])) W') := fun a W' b => ⟨b, .inl ⟨a, rfl⟩⟩
  have HCL : Hid (qE r p [] = 0 → ∀ W, G w W → Calls Tryz.prog 65 #[.agg r.v, .int .i64 p] W fun e w' => ∃ v, e = .returned v ∧ w'.ownsRow W.heap.size 40 3 v (prizesL (fuOf r p none 0)).length (cv Pz.v (prizesL (fuOf r p none 0))) ∧ G W w') := fun hq W hW => by
    obtain ⟨hr, n, rfl, hn⟩ := q_in hq
    exact prizes65_any r n W (h.keep hW) hr hn
  have HS : Hid (qE r p [] = 0 → ∀ W' v, G w W' → W'.ownsRow w.heap.size 40 3 v (prizesL (fuOf r p none 0)).length (cv Pz.v (prizesL (fuOf r p none 0))) → PrPostR r p w (.returned (.tuple #[v, .int .i64 0])) W') := fun a W' v b c => ⟨b, .inr ⟨a, v, rfl, c⟩⟩
  obtain ⟨ZL, hZL⟩ : ∃ ZL, ZL = prizesL (fuOf r p none 0) := ⟨_, rfl⟩
  rw [← hZL] at HS HCL
  clear hZL
  generalize PrPostR r p w = PP at *
  clear h
  rw [hrv] at HCK HCL ⊢
  clear hrv
  obtain ⟨W1, hW1⟩ : ∃ W1, W1 = w.alloc (.cells #[.slice r.ra r.racers.length r.rc, .slice r.pa r.pools.length r.pc, .slice r.ta r.protests.length r.tc] 26) := ⟨_, rfl⟩
  have g1 : G w W1 := by rw [hW1]; exact (G.rf _).a _
  have b0 : Blk W1 w.heap.size 26 #[.slice r.ra r.racers.length r.rc, .slice r.pa r.pools.length r.pc, .slice r.ta r.protests.length r.tc] := by rw [hW1]; exact Blk.new _ _ _
  have m0 := b0.cell 0
  have m1 := b0.cell 1
  have m2 := b0.cell 2
  have l0 := b0.lt
  generalize hQE : qE r p [] = QE at *
  clear hQE
  go_enter Tryz.func38, Tryz.ntmps38
  go_upto_region 1 with fail
  change Code.wp _ _ _ _ (w.alloc (.cells #[.slice r.ra r.racers.length r.rc, .slice r.pa r.pools.length r.pc, .slice r.ta r.protests.length r.tc] 26))
  rw [← hW1]
  clear hW1
  by_cases hq : QE = 0
  · have HC2 := Lib.hid (HCL.out hq)
    have HS2 := Lib.hid (HS.out hq)
    clear HCL HS HE
    subst hq
    go_wp2_with (first | (go_at_call 63; refine (HCK.out _ g1).mono ?_; rintro e w2 ⟨rfl, hG2⟩; clear m0 m1 m2 l0; have m0 := (b0.keep hG2).cell 0; have m1 := (b0.keep hG2).cell 1; have m2 := (b0.keep hG2).cell 2; have l0 := (b0.keep hG2).lt) | (go_at_call 65; refine (HC2.out _ (g1.t hG2)).mono ?_; rintro e w3 ⟨v, rfl, ho3, hG3⟩))
    have gz := (g1.t hG2).t hG3
    have HF := HS2.out _ v gz (own_weaken ho3 (g1.t hG2).size)
    first | exact HF | (go_ret; exact HF) | (go_ret2; exact HF)
  · have e0 : (QE == 0) = false := by simpa using hq
    have e1 : (QE != 0) = true := by simpa using hq
    have HE2 := Lib.hid (HE.out hq)
    clear HCL HS HE
    go_wp2_with (go_at_call 63; refine (HCK.out _ g1).mono ?_; rintro e w2 ⟨rfl, hG2⟩)
    have HF := HE2.out _ (g1.t hG2)
    first | exact HF | (go_ret; exact HF) | (go_ret2; exact HF)
end Go.Proofs.YtnkmcoljijmgpaaGreat

set_option linter.unusedSimpArgs false
set_option linter.unusedVariables false
namespace Go.Proofs.YtnkmcoljijmgpaaGreat
open Go.RowKit Go.Shelf Go.Sort Go.Maps
attribute [local go_sem] Oper.semAt_some
theorem copy_at {W : World} {B : Nat} {r o : Ra} (hAT : r.At W) (hc : CpIs W B r o) : o.At W := by
  have hlo : o.racers.length = r.racers.length := by
    have e := congrArg List.length hc.er
    simpa using e
  refine cp_at3 (o := o) (B1 := B) (B2 := B) hAT hc.rr (fun y hy => ?_) hlo hc.pr hc.pt hc.tr hc.ep (by rw [hc.et]; exact hAT.nt)
  obtain ⟨a', c', e, hI⟩ := own_ints (hc.rp y hy)
  injection e with e3 _ _
  refine ⟨by rw [e3]; exact hI, ?_⟩
  obtain ⟨z, hz, e4⟩ := mem_P hc.er hy
  obtain ⟨i, hi, rfl⟩ := List.mem_iff_getElem.1 hz
  have h5 := hAT.nq i hi
  rw [List.getD_eq_getElem?_getD, List.getElem?_eq_getElem hi] at h5
  have e5 : (r.racers[i]).pools = y.pools := congrArg (fun q => q.2.2.2.2) e4
  rw [← e5]
  exact h5
theorem race_copy {r o : Ra} (her : o.racers.map rcP = r.racers.map rcP) (hps : o.pools.map poP = r.pools.map poP) (hpr : o.protests = r.protests) : raceB o = raceB r := by
  cases hr : raceB r
  · cases ho : raceB o
    · rfl
    · rw [(req_copy ho her.symm hps.symm hpr.symm).2] at hr
      cases hr
  · exact (req_copy hr her hps hpr).2
def PLX (r : Ra) (p : Int) : List Int := if qE r p [] = 0 then placesL (fuOf r p none 0) else []
def GSX (r : Ra) (p : Int) : List (List Int) := if qE r p [] = 0 then orderL (fuOf r p none 0) [] else []
def PZX (r : Ra) (p : Int) : List Pz := if qE r p [] = 0 then prizesL (fuOf r p none 0) else []
def POX (r : Ra) (p : Int) : Int × Int × Int × Int := if qE r p [] = 0 then (totI (fuOf r p none 0), kepI (fuOf r p none 0), lefI (fuOf r p none 0), resI (fuOf r p none 0) []) else (0, 0, 0, 0)
theorem placesP {f g : Fu} (hp : poP f.po = poP g.po) (hr : f.rs.map rcK = g.rs.map rcK) : placesL f = placesL g := by
  have hl : f.rs.length = g.rs.length := by
    have e := congrArg List.length hr
    simpa using e
  obtain ⟨⟨a0, a1, a2, a3, a4, a5, a6, a7⟩, b1, b2, b3, b4, b5, b6⟩ := f
  obtain ⟨⟨c0, c1, c2, c3, c4, c5, c6, c7⟩, d1, d2, d3, d4, d5, d6⟩ := g
  unfold poP at hp
  simp only [Prod.mk.injEq] at hp
  dsimp only at hl
  obtain ⟨rfl, rfl, rfl, rfl, rfl, rfl⟩ := hp
  unfold placesL nPl lefI kepI totI
  dsimp only
  rw [hl]
theorem copy_X {r o : Ra} (her : o.racers.map rcP = r.racers.map rcP) (hps : o.pools.map poP = r.pools.map poP) (hpr : o.protests = r.protests) (p : Int) :
    qE o p [] = qE r p [] ∧ PLX o p = PLX r p ∧ GSX o p = GSX r p ∧ PZX o p = PZX r p ∧ POX o p = POX r p := by
  cases hr : raceB r
  · have ho := race_copy her hps hpr
    rw [hr] at ho
    have e1 : qE r p [] = 80 := by unfold qE; rw [if_neg (by rw [hr]; decide)]
    have e2 : qE o p [] = 80 := by unfold qE; rw [if_neg (by rw [ho]; decide)]
    have n1 : ¬ (80 : Int) = 0 := by decide
    refine ⟨by rw [e1, e2], ?_, ?_, ?_, ?_⟩
    · unfold PLX; rw [e1, e2, if_neg n1, if_neg n1]
    · unfold GSX; rw [e1, e2, if_neg n1, if_neg n1]
    · unfold PZX; rw [e1, e2, if_neg n1, if_neg n1]
    · unfold POX; rw [e1, e2, if_neg n1, if_neg n1]
  · obtain ⟨hq, ho⟩ := req_copy hr her hps hpr
    have e1 := qE_E hq hr ho p []
    have hp := hq.po p
    have hk := K_of_Q (hq.rs p)
    refine ⟨e1, ?_, ?_, ?_, ?_⟩
    · unfold PLX; rw [e1, placesP (f := fuOf o p none 0) (g := fuOf r p none 0) hp hk]
    · unfold GSX; rw [e1, orderP (f := fuOf o p none 0) (g := fuOf r p none 0) hp hk]
    · unfold PZX; rw [e1, prizesE hq p]
    · unfold POX
      have e := potP (f := fuOf o p none 0) (g := fuOf r p none 0) hp hk
      unfold potV at e
      simp only [Array.mk.injEq, List.cons.injEq, Value.int.injEq, true_and, and_true] at e
      obtain ⟨h1, h2, h3, h4⟩ := e
      rw [e1, h1, h2, h3, h4]
theorem pzX_of {r : Ra} {p : Int} {w w' : World} {e : Ending} (h : PrPostR r p w e w') : G w w' ∧ ∃ a c, e = .returned (.tuple #[.slice a (PZX r p).length c, .int .i64 (qE r p [])]) ∧ RowE Pz.v 3 w' a (PZX r p) := by
  obtain ⟨hG, ⟨h1, rfl⟩ | ⟨h1, v, rfl, ho⟩⟩ := h
  · refine ⟨hG, none, 0, ?_, ?_⟩ <;> (unfold PZX; rw [if_neg h1])
    · rfl
    · exact .inl rfl
  · obtain ⟨a, c, rfl, hI⟩ := own_rowE Pz.vs ho
    refine ⟨hG, a, c, ?_, ?_⟩ <;> (unfold PZX; rw [if_pos h1])
    · rw [h1]
    · exact hI
theorem X_len {r : Ra} (hn : r.racers.length ≤ 1000) (p : Int) : (PLX r p).length ≤ 1000 ∧ (GSX r p).length ≤ 1000 ∧ (∀ j, ((GSX r p).getD j []).length ≤ 1000) ∧ (PZX r p).length ≤ 1000 := by
  by_cases h1 : qE r p [] = 0
  · obtain ⟨hr, n, rfl, hn⟩ := q_in h1
    have hB := fu_bounds hr (inB_pool hn) none 0
    have ok := (fu_facts hr hn none 0 []).ok
    unfold PLX GSX PZX
    rw [if_pos h1, if_pos h1, if_pos h1]
    refine ⟨ok.pl, by have := ok.gl; omega, fun j => ?_, by rw [prizesL_len]; have := hB.many; omega⟩
    by_cases hj : j < (orderL (fuOf r n none 0) []).length
    · have := (grp_bd ok hj).2; omega
    · simp [List.getD_eq_getElem?_getD, List.getElem?_eq_none (Nat.le_of_not_lt hj)]
  · unfold PLX GSX PZX
    rw [if_neg h1, if_neg h1, if_neg h1]
    simp
end Go.Proofs.YtnkmcoljijmgpaaGreat

set_option linter.unusedSimpArgs false
set_option linter.unusedVariables false
namespace Go.Proofs.YtnkmcoljijmgpaaGreat
open Go.RowKit Go.Shelf Go.Sort Go.Maps
attribute [local go_sem] Oper.semAt_some
/-- what a bird is paid by the first m prizes -/
def payT (l : List Pz) (b : Int) (m : Nat) : Int := ((l.take m).map fun z => if z.bird = b then z.won + z.back else 0).sum
def payF (l : List Pz) (b : Int) : Int := payT l b l.length
theorem take_sum {α : Type} [Inhabited α] (F : α → Int) (l : List α) {m : Nat} (h : m < l.length) : ((l.take (m + 1)).map F).sum = ((l.take m).map F).sum + F (l.getD m default) := by
  rw [List.take_add_one, List.map_append, List.sum_append, List.getElem?_eq_getElem h, List.getD_eq_getElem?_getD, List.getElem?_eq_getElem h]
  simp
theorem payT_succ (l : List Pz) (b : Int) {m : Nat} (h : m < l.length) : payT l b (m + 1) = payT l b m + if (l.getD m default).bird = b then (l.getD m default).won + (l.getD m default).back else 0 := take_sum _ l h
theorem sum_one {F : Nat → Int} : ∀ {n m : Nat}, m < n → (∀ i, i < n → i ≠ m → F i = 0) → ((List.range n).map F).sum = F m
  | 0, m, h, _ => by omega
  | n + 1, m, h, h0 => by
    rw [List.range_succ, List.map_append, List.sum_append]
    by_cases e : m = n
    · subst e
      have hz : ((List.range m).map F).sum = 0 := by
        have : (List.range m).map F = (List.range m).map fun _ => (0 : Int) := List.map_congr_left fun i hi => h0 i (by have := List.mem_range.1 hi; omega) (by have := List.mem_range.1 hi; omega)
        rw [this]
        simp [List.map_const']
      rw [hz]
      simp
    · rw [sum_one (n := n) (m := m) (by omega) (fun i hi hne => h0 i (by omega) hne)]
      simp [h0 n (by omega) (fun e2 => e e2.symm)]
theorem pay_at {f : Fu} (hu : Uniq f.rs) {m : Nat} (hm : m < f.rs.length) : payF (prizesL f) (f.rs.getD m default).bird = ((prizesL f).getD m default).won + ((prizesL f).getD m default).back := by
  unfold payF payT
  rw [List.take_length]
  have hg : ∀ i, i < f.rs.length → (prizesL f).getD i default = ⟨(f.rs.getD i default).bird, wonAt (wonL f []) (f.rs.getD i default).bird, shareI (resI f []) f.rs.length i⟩ := fun i hi => by
    unfold prizesL
    rw [List.getD_eq_getElem?_getD, List.getElem?_map, List.getElem?_range hi]
    rfl
  rw [hg m hm]
  unfold prizesL
  rw [List.map_map]
  have := sum_one (F := fun i => if (f.rs.getD i default).bird = (f.rs.getD m default).bird then wonAt (wonL f []) (f.rs.getD i default).bird + shareI (resI f []) f.rs.length i else 0) hm (fun i hi hne => by
    rw [if_neg]
    intro e
    have a : f.rs.getD i default = f.rs[i] := by simp [List.getD_eq_getElem?_getD, hi]
    have b : f.rs.getD m default = f.rs[m] := by simp [List.getD_eq_getElem?_getD, hm]
    rw [a, b] at e
    rcases Nat.lt_or_ge i m with h | h
    · exact List.pairwise_iff_getElem.1 hu i m hi hm h e
    · exact List.pairwise_iff_getElem.1 hu m i hm hi (by omega) e.symm)
  rw [if_pos rfl] at this
  exact this
theorem puIn_any {f : Fu} {l : List Rc} {n : Nat} {acc : List Pu} (h : PuF l n acc) (hs : ∀ x ∈ f.rs, x ∈ l) : ∀ j, j ≤ f.rs.length → ∀ x, ((puIn f acc j).any fun p => p.owner == x) = acc.any fun p => p.owner == x
  | 0, _, x => rfl
  | j + 1, hj, x => by
    have ih := puIn_any h hs j (by omega) x
    have h1 := (puIn_facts h hs j (by omega)).1
    have hx : f.rs.getD j default ∈ l := hs _ (by
      rw [List.getD_eq_getElem?_getD, List.getElem?_eq_getElem (by omega)]
      exact List.getElem_mem _)
    have ho := atP_owner (h1.all _ hx)
    show (putP _ _).any _ = _
    rw [putP_any, ih]
    show (_ || (atP (puIn f acc j) (f.rs.getD j default).owner).owner == x) = _
    rw [ho]
    by_cases e : (f.rs.getD j default).owner = x
    · have := h.all _ hx
      rw [e] at this
      rw [this]
      rfl
    · have : ((f.rs.getD j default).owner == x) = false := by simpa using e
      rw [this, Bool.or_false]
theorem puIn_at {f : Fu} {l : List Rc} {n : Nat} {acc : List Pu} (h : PuF l n acc) (hs : ∀ x ∈ f.rs, x ∈ l) (hu : Uniq f.rs) {x : Int} (hx : (acc.any fun p => p.owner == x) = true) : ∀ j, j ≤ f.rs.length →
    atP (puIn f acc j) x = ⟨x, (atP acc x).staked + ((f.rs.take j).map fun y => if y.owner = x then f.po.stake else 0).sum, (atP acc x).paid + ((f.rs.take j).map fun y => if y.owner = x then payF (prizesL f) y.bird else 0).sum⟩
  | 0, _ => by
    have ho := atP_owner hx
    show atP acc x = _
    simp only [List.take_zero, List.map_nil, List.sum_nil, Int.add_zero]
    rw [← ho, ho]
    conv => lhs; rw [show atP acc x = ⟨(atP acc x).owner, (atP acc x).staked, (atP acc x).paid⟩ from rfl]
    rw [ho]
  | j + 1, hj => by
    have ih := puIn_at h hs hu hx j (by omega)
    have h1 := (puIn_facts h hs j (by omega)).1
    have hm : f.rs.getD j default ∈ l := hs _ (by
      rw [List.getD_eq_getElem?_getD, List.getElem?_eq_getElem (by omega)]
      exact List.getElem_mem _)
    have ho := atP_owner (h1.all _ hm)
    rw [take_sum _ f.rs (by omega), take_sum _ f.rs (by omega), pay_at hu (by omega)]
    show atP (putP _ _) x = _
    rw [atP_put]
    by_cases e : (f.rs.getD j default).owner = x
    · have e1 : (addP (atP (puIn f acc j) (f.rs.getD j default).owner) f.po.stake (((prizesL f).getD j default).won + ((prizesL f).getD j default).back)).owner = x := by
        show (atP (puIn f acc j) (f.rs.getD j default).owner).owner = x
        rw [ho, e]
      rw [if_pos e1, if_pos e, if_pos e, e, ih]
      unfold addP
      dsimp only
      rw [Int.add_assoc, Int.add_assoc]
    · have e1 : ¬ (addP (atP (puIn f acc j) (f.rs.getD j default).owner) f.po.stake (((prizesL f).getD j default).won + ((prizesL f).getD j default).back)).owner = x := by
        show ¬ (atP (puIn f acc j) (f.rs.getD j default).owner).owner = x
        rw [ho]
        exact e
      rw [if_neg e1, if_neg e, if_neg e, ih, Int.add_zero, Int.add_zero]
theorem puTo_PuF {r : Ra} (hr : raceB r = true) : ∀ k, k ≤ r.pools.length → PuF r.racers r.racers.length (puTo r k) := fun k hk =>
  (puTo_facts (r := r) (fun k hk => fu_facts hr hk none 0 []) (fun k => runners_uniq hr k) (fun k x hx => (runners_sub hx).1) k hk).1
theorem puTo_any {r : Ra} (hr : raceB r = true) (x : Int) : ∀ k, k ≤ r.pools.length → ((puTo r k).any fun p => p.owner == x) = r.racers.any fun y => y.owner == x
  | 0, _ => by
    have := (pu0_any r.racers x _ (Nat.le_refl _)).1
    rw [List.take_length] at this
    exact this
  | k + 1, hk => by
    have ih := puTo_any hr x k (by omega)
    have := puIn_any (f := fuOf r k none 0) (puTo_PuF hr k (by omega)) (fun x hx => (runners_sub hx).1) _ (Nat.le_refl _) x
    rw [ih] at this
    exact this
theorem puTo_at {r : Ra} (hr : raceB r = true) {x : Int} (hx : (r.racers.any fun y => y.owner == x) = true) : ∀ k, k ≤ r.pools.length →
    atP (puTo r k) x = ⟨x, sumK (fun j => ((runners r j).map fun y => if y.owner = x then (r.pools.getD j default).stake else 0).sum) k, sumK (fun j => ((runners r j).map fun y => if y.owner = x then payF (prizesL (fuOf r j none 0)) y.bird else 0).sum) k⟩
  | 0, _ => by
    have := (pu0_any r.racers x _ (Nat.le_refl _)).2
    rw [List.take_length, if_pos hx] at this
    exact this
  | k + 1, hk => by
    have ih := puTo_at hr hx k (by omega)
    have := puIn_at (f := fuOf r k none 0) (x := x) (puTo_PuF hr k (by omega)) (fun x hx => (runners_sub hx).1) (runners_uniq hr k) (by rw [puTo_any hr x k (by omega)]; exact hx) _ (Nat.le_refl _)
    rw [ih, List.take_length] at this
    have hst : (fuOf r k none 0).po.stake = (r.pools.getD k default).stake := by
      show (poolAt r k).stake = _
      unfold poolAt
      rw [Int.toNat_natCast]
    rw [hst] at this
    exact this
theorem sum_perm {l l' : List Int} (h : l.Perm l') : l.sum = l'.sum := by
  induction h with
  | nil => rfl
  | cons x _ ih => simp [ih]
  | swap x y l => simp only [List.sum_cons]; omega
  | trans _ _ h1 h2 => exact h1.trans h2
theorem filter_sumI {α : Type} (p : α → Bool) (F : α → Int) : ∀ l : List α, ((l.filter p).map F).sum = (l.map fun y => if p y = true then F y else 0).sum
  | [] => rfl
  | a :: l => by
    have ih := filter_sumI p F l
    cases h : p a
    · rw [List.filter_cons_of_neg (by simp [h]), ih, List.map_cons, List.sum_cons, h]
      simp
    · rw [List.filter_cons_of_pos h, List.map_cons, List.sum_cons, ih, List.map_cons, List.sum_cons, h]
      simp
theorem map_add {α : Type} (F H : α → Int) : ∀ l : List α, (l.map fun y => F y + H y).sum = (l.map F).sum + (l.map H).sum
  | [] => rfl
  | a :: l => by
    have ih := map_add F H l
    simp only [List.map_cons, List.sum_cons, ih]
    omega
theorem sumK_list {α : Type} (F : Nat → α → Int) (l : List α) : ∀ n, sumK (fun j => (l.map (F j)).sum) n = (l.map fun y => sumK (fun j => F j y) n).sum
  | 0 => by
    show (0 : Int) = (l.map fun _ => (0 : Int)).sum
    simp [List.map_const']
  | n + 1 => by
    have ih := sumK_list F l n
    show sumK _ n + (l.map (F n)).sum = (l.map fun y => sumK (fun j => F j y) n + F n y).sum
    rw [ih, map_add]
theorem sumK_zero {F : Nat → Int} : ∀ {n : Nat}, (∀ j, j < n → F j = 0) → sumK F n = 0
  | 0, _ => rfl
  | n + 1, h => by
    show sumK F n + F n = 0
    rw [sumK_zero (fun j hj => h j (by omega)), h n (by omega)]
    rfl
theorem sumK_one {F : Nat → Int} : ∀ {n a : Nat}, a < n → (∀ j, j < n → j ≠ a → F j = 0) → sumK F n = F a
  | 0, a, h, _ => by omega
  | n + 1, a, h, h0 => by
    show sumK F n + F n = _
    by_cases e : a = n
    · subst e
      rw [sumK_zero (fun j hj => h0 j (by omega) (by omega))]
      omega
    · rw [sumK_one (n := n) (a := a) (by omega) (fun j hj hne => h0 j (by omega) hne), h0 n (by omega) (fun e2 => e e2.symm)]
      omega
theorem sumK_add (F H : Nat → Int) : ∀ n, sumK (fun j => F j + H j) n = sumK F n + sumK H n
  | 0 => rfl
  | n + 1 => by
    have ih := sumK_add F H n
    show sumK _ n + (F n + H n) = (sumK F n + F n) + (sumK H n + H n)
    rw [ih]
    omega
theorem sumK_congr {F H : Nat → Int} : ∀ {n : Nat}, (∀ j, j < n → F j = H j) → sumK F n = sumK H n
  | 0, _ => rfl
  | n + 1, h => by
    show sumK F n + F n = sumK H n + H n
    rw [sumK_congr (fun j hj => h j (by omega)), h n (by omega)]
theorem sumK_in (h : Nat → Int) (n : Nat) : ∀ L : List Int, L.Pairwise (fun a b => a ≠ b) → (∀ k ∈ L, 0 ≤ k ∧ k < n) → sumK (fun j => if inL L (j : Int) = true then h j else 0) n = (L.map fun k => h k.toNat).sum
  | [], _, _ => sumK_zero fun j _ => rfl
  | a :: L, hp, hb => by
    rw [List.pairwise_cons] at hp
    have ih := sumK_in h n L hp.2 (fun k hk => hb k (List.mem_cons_of_mem _ hk))
    have ha := hb a (List.mem_cons_self ..)
    rw [List.map_cons, List.sum_cons, ← ih]
    have e : ∀ j, j < n → (if inL (a :: L) (j : Int) = true then h j else 0) = (if j = a.toNat then h j else 0) + (if inL L (j : Int) = true then h j else 0) := fun j hj => by
      by_cases e1 : j = a.toNat
      · have e2 : (j : Int) = a := by omega
        have n1 : ¬ inL L (j : Int) = true := fun hh => hp.1 _ (inL_iff.1 hh) e2.symm
        rw [if_pos e1, if_neg n1, if_pos (inL_iff.2 (by rw [e2]; exact List.mem_cons_self ..))]
        omega
      · have e2 : ¬ (j : Int) = a := by omega
        rw [if_neg e1]
        by_cases n1 : inL L (j : Int) = true
        · rw [if_pos n1, if_pos (inL_iff.2 (List.mem_cons_of_mem _ (inL_iff.1 n1)))]
          omega
        · rw [if_neg n1, if_neg]
          · rfl
          · intro hh
            rcases List.mem_cons.1 (inL_iff.1 hh) with h1 | h1
            · exact e2 h1
            · exact n1 (inL_iff.2 h1)
    rw [sumK_congr e, sumK_add, sumK_one (F := fun j => if j = a.toNat then h j else 0) (n := n) (a := a.toNat) (by omega) (fun j _ hne => if_neg hne), if_pos rfl]
/-- what the pools of a racer give, over all racers of an owner -/
def ownT (g : Nat → Rc → Int) (l : List Rc) (x : Int) (i : Nat) : Int := ((l.take i).map fun y => if y.owner = x then (y.pools.map fun k => g k.toNat y).sum else 0).sum
theorem asc_ne {l : List Int} (h : ascB l = true) : l.Pairwise fun a b => a ≠ b := by
  have h1 := allU_iff.1 h
  have step : ∀ d i, i + d + 1 < l.length → l.getD i 0 < l.getD (i + d + 1) 0 := fun d => by
    induction d with
    | zero => intro i hi; have := h1 (i + 1) hi; simpa using this
    | succ d ih =>
      intro i hi
      have a := ih i (by omega)
      have b := h1 (i + d + 1 + 1) (by omega)
      have b' : l.getD (i + d + 1) 0 < l.getD (i + d + 1 + 1) 0 := by simpa using b
      have e : i + (d + 1) + 1 = i + d + 1 + 1 := by omega
      rw [e]
      omega
  rw [List.pairwise_iff_getElem]
  intro i j hi hj hij
  have := step (j - i - 1) i (by omega)
  rw [show i + (j - i - 1) + 1 = j by omega] at this
  rw [List.getD_eq_getElem?_getD, List.getD_eq_getElem?_getD, List.getElem?_eq_getElem hi, List.getElem?_eq_getElem hj] at this
  have t2 : l[i] < l[j] := this
  omega
theorem racer_pools {r : Ra} (hr : raceB r = true) {y : Rc} (hy : y ∈ r.racers) : y.pools.Pairwise (fun a b => a ≠ b) ∧ ∀ k ∈ y.pools, 0 ≤ k ∧ k < r.pools.length := by
  have h1 := racer_parts hr hy
  unfold racerB at h1
  simp only [Bool.and_eq_true] at h1
  obtain ⟨_, _, _, h2, h3⟩ := h1
  refine ⟨asc_ne h2, fun k hk => ?_⟩
  obtain ⟨i, hi, rfl⟩ := List.mem_iff_getElem.1 hk
  have h4 := allU_iff.1 h3 i hi
  unfold isInB at h4
  rw [List.getD_eq_getElem?_getD, List.getElem?_eq_getElem hi] at h4
  simp only [Bool.and_eq_true, decide_eq_true_eq, Option.getD_some] at h4
  omega
theorem swap_sum {r : Ra} (hr : raceB r = true) (g : Nat → Rc → Int) (x : Int) : sumK (fun j => ((runners r j).map fun y => if y.owner = x then g j y else 0).sum) r.pools.length = ownT g r.racers x r.racers.length := by
  have e1 : ∀ j, j < r.pools.length → ((runners r j).map fun y => if y.owner = x then g j y else 0).sum = (r.racers.map fun y => if inL y.pools (j : Int) = true then (if y.owner = x then g j y else 0) else 0).sum := fun j _ => by
    rw [← filter_sumI]
    unfold runners
    exact sum_perm ((srt_perm _).map _)
  rw [sumK_congr e1, sumK_list (fun j y => if inL y.pools (j : Int) = true then (if y.owner = x then g j y else 0) else 0)]
  unfold ownT
  rw [List.take_length]
  refine congrArg List.sum (List.map_congr_left fun y hy => ?_)
  obtain ⟨h1, h2⟩ := racer_pools hr hy
  by_cases e : y.owner = x
  · simp only [if_pos e]
    exact sumK_in (fun j => g j y) _ y.pools h1 h2
  · simp only [if_neg e]
    exact sumK_zero fun j _ => by split <;> rfl
def stkG (r : Ra) (k : Nat) (y : Rc) : Int := (r.pools.getD k default).stake
def payG (r : Ra) (k : Nat) (y : Rc) : Int := payF (prizesL (fuOf r k none 0)) y.bird
/-- the purses of the owners below o, as the reference has them -/
def rPur (r : Ra) (o : Nat) : List Pu := ((List.range o).filter fun (i : Nat) => r.racers.any fun y => y.owner == (i : Int)).map fun (i : Nat) => ⟨i, ownT (stkG r) r.racers i r.racers.length, ownT (payG r) r.racers i r.racers.length⟩
theorem rPur_succ (r : Ra) (o : Nat) : rPur r (o + 1) = if (r.racers.any fun y => y.owner == (o : Int)) = true then rPur r o ++ [⟨o, ownT (stkG r) r.racers o r.racers.length, ownT (payG r) r.racers o r.racers.length⟩] else rPur r o := by
  unfold rPur
  rw [List.range_succ, List.filter_append, List.map_append]
  cases h : (r.racers.any fun y => y.owner == (o : Int)) <;> simp [List.filter_cons, h]
theorem rPur_len (r : Ra) (o : Nat) : (rPur r o).length ≤ o := by
  unfold rPur
  rw [List.length_map]
  exact Nat.le_trans (List.length_filter_le _ _) (by rw [List.length_range]; exact Nat.le_refl _)
theorem rPur_mem {r : Ra} {o : Nat} {p : Pu} (h : p ∈ rPur r o) : ∃ i : Nat, i < o ∧ (r.racers.any fun y => y.owner == (i : Int)) = true ∧ p = ⟨i, ownT (stkG r) r.racers i r.racers.length, ownT (payG r) r.racers i r.racers.length⟩ := by
  unfold rPur at h
  obtain ⟨i, hi, rfl⟩ := List.mem_map.1 h
  obtain ⟨h1, h2⟩ := List.mem_filter.1 hi
  exact ⟨i, List.mem_range.1 h1, h2, rfl⟩
theorem rPur_pw (r : Ra) (o : Nat) : (rPur r o).Pairwise fun a b => a.owner < b.owner := by
  unfold rPur
  rw [List.pairwise_map]
  refine List.Pairwise.filter _ ?_
  rw [List.pairwise_iff_getElem]
  intro i j hi hj hij
  simp only [List.getElem_range]
  show (i : Int) < (j : Int)
  omega
theorem rPur_all {r : Ra} (hr : raceB r = true) : rPur r 100 = pursesL r := by
  have hpw := rPur_pw r 100
  have hu : UniqP (rPur r 100) := hpw.imp fun {a b} h e => by omega
  have hown := racers_own hr
  have hany : ∀ x, ((rPur r 100).any fun p => p.owner == x) = r.racers.any fun y => y.owner == x := fun x => by
    rw [Bool.eq_iff_iff]
    constructor
    · intro h
      obtain ⟨p, hp, e⟩ := List.any_eq_true.1 h
      obtain ⟨i, _, h2, rfl⟩ := rPur_mem hp
      have e2 : (i : Int) = x := by simpa using e
      rw [← e2]
      exact h2
    · intro h
      obtain ⟨y, hy, e⟩ := List.any_eq_true.1 h
      have e2 : y.owner = x := by simpa using e
      have hb := hown y hy
      refine List.any_eq_true.2 ⟨⟨x, ownT (stkG r) r.racers x r.racers.length, ownT (payG r) r.racers x r.racers.length⟩, ?_, by simp⟩
      unfold rPur
      refine List.mem_map.2 ⟨x.toNat, List.mem_filter.2 ⟨List.mem_range.2 (by omega), ?_⟩, ?_⟩
      · rw [show ((x.toNat : Nat) : Int) = x by omega]
        exact h
      · rw [show ((x.toNat : Nat) : Int) = x by omega]
  have hsim : PSim (rPur r 100) (puTo r r.pools.length) := ⟨fun x => by rw [hany, puTo_any hr x _ (Nat.le_refl _)], fun x => by
    cases hx : (r.racers.any fun y => y.owner == x)
    · have a : ∀ {l : List Pu}, (l.any fun p => p.owner == x) = false → atP l x = ⟨0, 0, 0⟩ := fun {l} h => by
        unfold atP
        have : l.find? (fun p => p.owner == x) = none := by
          rw [List.find?_eq_none]
          intro p hp
          exact List.any_eq_false.1 h p hp
        rw [this]
      rw [a (by rw [hany]; exact hx), a (by rw [puTo_any hr x _ (Nat.le_refl _)]; exact hx)]
    · rw [puTo_at hr hx _ (Nat.le_refl _), swap_sum hr (fun j y => (r.pools.getD j default).stake) x, swap_sum hr (fun j y => payF (prizesL (fuOf r j none 0)) y.bird) x]
      unfold atP
      cases hf : (rPur r 100).find? fun p => p.owner == x with
      | none =>
        rw [List.find?_eq_none] at hf
        have := hany x
        rw [hx] at this
        obtain ⟨p, hp, e⟩ := List.any_eq_true.1 this
        exact absurd e (hf p hp)
      | some q =>
        obtain ⟨i, _, _, rfl⟩ := rPur_mem (List.mem_of_find?_eq_some hf)
        have e := List.find?_some hf
        have e2 : (i : Int) = x := by simpa using e
        rw [e2]
        rfl⟩
  have h1 := hsim.srt hu (puTo_uniq _ _)
  have h2 : srtP (rPur r 100) = rPur r 100 := by
    unfold srtP
    exact List.mergeSort_of_pairwise (hpw.imp fun {a b} h => by simp; omega)
  rw [h2] at h1
  exact h1
end Go.Proofs.YtnkmcoljijmgpaaGreat

set_option linter.unusedSimpArgs false
set_option linter.unusedVariables false
namespace Go.Proofs.YtnkmcoljijmgpaaGreat
open Go.RowKit Go.Shelf Go.Sort Go.Maps
attribute [local go_sem] Oper.semAt_some
theorem payT_bd {f : Fu} (h : WonFacts f []) (b : Int) : ∀ m, m ≤ f.rs.length → 0 ≤ payT (prizesL f) b m ∧ payT (prizesL f) b m ≤ 2500000 * m
  | 0, _ => by simp [payT]
  | m + 1, hm => by
    have ih := payT_bd h b m (by omega)
    have h1 := prizesL_bd h m (by omega)
    rw [payT_succ _ b (by rw [prizesL_len]; omega), show ((m + 1 : Nat) : Int) = (m : Int) + 1 by omega]
    split <;> omega
theorem ownT_succ (g : Nat → Rc → Int) (l : List Rc) (x : Int) {i : Nat} (h : i < l.length) : ownT g l x (i + 1) = ownT g l x i + if (l.getD i default).owner = x then ((l.getD i default).pools.map fun k => g k.toNat (l.getD i default)).sum else 0 := take_sum _ l h
theorem any_take_succ (l : List Rc) (x : Int) {i : Nat} (h : i < l.length) : ((l.take (i + 1)).any fun y => y.owner == x) = (((l.take i).any fun y => y.owner == x) || (l.getD i default).owner == x) := by
  rw [List.take_add_one, List.any_append, List.getElem?_eq_getElem h, List.getD_eq_getElem?_getD, List.getElem?_eq_getElem h]
  simp
def polT (g : Nat → Rc → Int) (y : Rc) (t : Nat) : Int := ((y.pools.take t).map fun k => g k.toNat y).sum
theorem polT_succ (g : Nat → Rc → Int) (y : Rc) {t : Nat} (h : t < y.pools.length) : polT g y (t + 1) = polT g y t + g (y.pools.getD t 0).toNat y := take_sum (fun k : Int => g k.toNat y) y.pools h
theorem polT_all (g : Nat → Rc → Int) (y : Rc) : polT g y y.pools.length = (y.pools.map fun k => g k.toNat y).sum := by unfold polT; rw [List.take_length]
set_option maxRecDepth 100000 in
set_option maxHeartbeats 16000000 in
theorem rPurses_any (r : Ra) (w : World) (h : r.At w) : Calls Tryz.prog 39 #[.agg r.v] w (PuPost r w) := by
  have HCK := Lib.hid (fun (W : World) (hW : G w W) => refCheck8_any r W (h.keep hW))
  have HE : Hid (raceB r = false → ∀ W', G w W' → PuPost r w (.returned (.tuple #[.slice none 0 0, .int .i64 80])) W') := fun a W' b => ⟨b, .inl ⟨a, rfl⟩⟩
  have HS : Hid (raceB r = true → ∀ W' v, G w W' → W'.ownsRow w.heap.size 47 3 v (rPur r 100).length (puV (rPur r 100)) → PuPost r w (.returned (.tuple #[v, .int .i64 0])) W') := fun a W' v b c => by
    rw [rPur_all a] at c
    exact ⟨b, .inr ⟨a, v, rfl, c⟩⟩
  have hrv : r.v = #[.slice r.ra r.racers.length r.rc, .slice r.pa r.pools.length r.pc, .slice r.ta r.protests.length r.tc] := rfl
  have HPZ : Hid (raceB r = true → ∀ (k : Nat), k < r.pools.length → ∀ W, G w W → Calls Tryz.prog 65 #[.agg #[.slice r.ra r.racers.length r.rc, .slice r.pa r.pools.length r.pc, .slice r.ta r.protests.length r.tc], .int .i64 (k : Nat)] W fun e w' => ∃ a c, e = .returned (.slice a (prizesL (fuOf r k none 0)).length c) ∧ RowE Pz.v 3 w' a (prizesL (fuOf r k none 0)) ∧ (∀ g o, a = some ⟨g, o, none⟩ → 0 < (prizesL (fuOf r k none 0)).length → W.heap.size ≤ g) ∧ G W w') := fun hr k hk W hW => by
    refine (prizes65_any r k W (h.keep hW) hr hk).mono ?_
    rintro e w' ⟨v, rfl, ho, hG⟩
    obtain ⟨a, c, rfl, hI⟩ := own_rowE Pz.vs ho
    refine ⟨a, c, rfl, hI, fun g o e hl => ?_, hG⟩
    obtain ⟨g', cap, cur, he, _⟩ := own_some ho hl
    injection he with e1 _ _
    rw [e] at e1
    injection e1 with e1
    injection e1 with e1 e2 _
    subst e1 e2
    exact own_base ho (by rw [e]; rfl)
  generalize PuPost r w = PP at *
  unfold chk8 at HCK
  rw [hrv] at HCK ⊢
  clear hrv
  obtain ⟨W1, hW1⟩ : ∃ W1, W1 = w.alloc (.cells #[.slice r.ra r.racers.length r.rc, .slice r.pa r.pools.length r.pc, .slice r.ta r.protests.length r.tc] 26) := ⟨_, rfl⟩
  have g1 : G w W1 := by rw [hW1]; exact (G.rf _).a _
  have b0 : Blk W1 w.heap.size 26 #[.slice r.ra r.racers.length r.rc, .slice r.pa r.pools.length r.pc, .slice r.ta r.protests.length r.tc] := by rw [hW1]; exact Blk.new _ _ _
  have m0 := b0.cell 0
  have m1 := b0.cell 1
  have m2 := b0.cell 2
  have l0 := b0.lt
  go_enter Tryz.func39, Tryz.ntmps39
  go_upto_region 1 with fail
  change Code.wp _ _ _ _ (w.alloc (.cells #[.slice r.ra r.racers.length r.rc, .slice r.pa r.pools.length r.pc, .slice r.ta r.protests.length r.tc] 26))
  rw [← hW1]
  clear hW1
  cases hB : raceB r
  · have HC2 := Lib.hid (HCK.out W1 g1)
    rw [hB] at HC2
    simp only [Bool.false_eq_true, if_false] at HC2
    clear HCK h HS HPZ
    go_wp2_with (go_at_call 14; refine (HC2.out).mono ?_; rintro e w2 ⟨rfl, hG2⟩)
    have HF := Lib.hid (HE.out hB _ (g1.t hG2))
    first | exact HF.out | (go_ret; exact HF.out)
  have HC2 := Lib.hid (HCK.out W1 g1)
  rw [hB] at HC2
  simp only [if_true] at HC2
  have HSS := Lib.hid (HS.out hB)
  have HPR := Lib.hid (HPZ.out hB)
  have HTB : Hid (∀ (k : Nat), k < r.pools.length → ∀ b m, m ≤ (prizesL (fuOf r k none 0)).length → 0 ≤ payT (prizesL (fuOf r k none 0)) b m ∧ payT (prizesL (fuOf r k none 0)) b m ≤ 2500000 * m) := fun k hk b m hm => payT_bd (fu_facts hB hk none 0 []) b m (by rw [prizesL_len] at hm; exact hm)
  have HZL : Hid (∀ (k : Nat), k < r.pools.length → (prizesL (fuOf r k none 0)).length ≤ 12 ∧ ∀ m, m < (prizesL (fuOf r k none 0)).length → (0 ≤ ((prizesL (fuOf r k none 0)).getD m default).won ∧ ((prizesL (fuOf r k none 0)).getD m default).won ≤ 1200001) ∧ 0 ≤ ((prizesL (fuOf r k none 0)).getD m default).back ∧ ((prizesL (fuOf r k none 0)).getD m default).back ≤ 1200001) := fun k hk => by
    have hf := fu_facts hB hk none 0 []
    refine ⟨by rw [prizesL_len]; exact (fu_bounds hB (inB_pool hk) none 0).many, fun m hm => ?_⟩
    rw [prizesL_len] at hm
    have := prizesL_bd hf m hm
    exact ⟨⟨this.1.1, by omega⟩, this.2.1, by omega⟩
  have HSK : Hid (∀ (k : Nat), k < r.pools.length → 0 ≤ (r.pools.getD k default).stake ∧ (r.pools.getD k default).stake ≤ 100000) := fun k hk => by
    have hm : r.pools.getD k default ∈ r.pools := by
      rw [List.getD_eq_getElem?_getD, List.getElem?_eq_getElem hk]
      exact List.getElem_mem hk
    have := pool_bd (((race_iff r).1 hB).2.1 _ hm)
    exact ⟨this.1, this.2.1⟩
  have h12 := (uniq_of (race_parts hB)).1
  have HRP : Hid (∀ i, i < r.racers.length → ∀ k ∈ (r.racers.getD i default).pools, 0 ≤ k ∧ k < r.pools.length) := fun i hi => (racer_pools hB (by
    rw [List.getD_eq_getElem?_getD, List.getElem?_eq_getElem hi]
    exact List.getElem_mem hi)).2
  have HROW := Lib.hid h.rs.row
  have HPOW := Lib.hid h.ps.row
  have HPI := Lib.hid h.rs.pools
  have HNQ := Lib.hid h.nq
  have HLN := Lib.hid (fun o => rPur_len r o)
  have HSU := Lib.hid (fun o => rPur_succ r o)
  clear HCK HE HS HPZ hB h
  go_wp2_with (go_at_call 14; refine (HC2.out).mono ?_; rintro e w2 ⟨rfl, hG2⟩)
  have g2 := g1.t hG2
  have HB2 := Lib.hid (b0.keep hG2)
  have hwl : w.heap.size < w2.heap.size := (b0.keep hG2).lt
  clear m0 m1 m2 l0 b0 HC2 hG2 g1
  obtain ⟨i0, hi0, hz0, hz1, hz2⟩ := info_parts info47
  go_loopw [5, 6] (fun v i wr => ∃ (k : Nat) (RL : List Pu), k ≤ 100 ∧ i = .int .i64 k ∧ Hid (RL = rPur r k) ∧ Hid (wr.ownsRow w2.heap.size 47 3 v RL.length (puV RL)) ∧ Hid (G w2 wr)) (fun _ i _ => 100 - (intOf i).toNat)
  case atStart => exact ⟨0, [], Nat.zero_le _, rfl, rfl, World.ownsRow_nil _ _ _ _, G.rf _⟩
  case round =>
    obtain ⟨ow, RL, how, rfl, HRL, HO, HG⟩ := hrel
    obtain ⟨wk, rfl⟩ : ∃ wk, wk = wr := ⟨_, rfl⟩
    obtain ⟨oa, oc, rfl⟩ := own_slice HO.out
    by_cases hol : ow < 100
    rotate_left
    · obtain rfl : ow = 100 := by omega
      have hoi : ¬ ((100 : Nat) : Int) ≤ 99 := by omega
      rw [HRL.out] at HO
      have HF := Lib.hid (HSS.out wk (.slice oa RL.length oc) (g2.t HG.out) (by rw [← HRL.out]; have := own_weaken HO.out g2.size; rw [← HRL.out] at this; exact this))
      go_wp2_with fail
      first | exact HF.out | (go_ret; exact HF.out)
    have hoi : (ow : Int) ≤ 99 := by omega
    go_upto_region 9 with fail
    obtain ⟨W3, hW3⟩ : ∃ W3, W3 = wk.alloc (.cells #[.int .i64 ow, .int .i64 0, .int .i64 0] 47) := ⟨_, rfl⟩
    change Code.wp _ _ _ _ (wk.alloc (.cells #[.int .i64 ow, .int .i64 0, .int .i64 0] 47))
    obtain ⟨K, hK⟩ : ∃ K, K = wk.heap.size := ⟨_, rfl⟩
    have bx : Blk W3 K 47 #[.int .i64 ow, .int .i64 0, .int .i64 0] := by rw [hW3, hK]; exact Blk.new _ _ _
    have ga : G wk W3 := by rw [hW3]; exact (G.rf _).a _
    have HO3 := Lib.hid (own_G HO.out ga)
    have HG3 := Lib.hid (HG.out.t ga)
    have HOK : Hid (∀ g, (Value.slice oa RL.length oc).ownBlock = some g → g ≠ K) := fun g hg e => by
      rcases own_none HO.out with h1 | ⟨g', h1, _, h2⟩
      · rw [h1] at hg; cases hg
      · rw [h1] at hg
        injection hg with hg
        omega
    have hKw : w2.heap.size ≤ K := by rw [hK]; exact HG.out.size
    rw [← hW3, ← hK]
    clear hW3 hK ga HO HG
    go_wp2_with fail
    go_loopw [8, 9] (fun f i wr => ∃ (k : Nat) (st pd : Int) (fb : Bool), k ≤ r.racers.length ∧ (0 ≤ st ∧ st ≤ 100000000 * (k : Int)) ∧ (0 ≤ pd ∧ pd ≤ 30000000000 * (k : Int)) ∧ f = .bool fb ∧ i = .int .i64 k ∧ Hid (fb = (r.racers.take k).any fun y => y.owner == (ow : Int)) ∧ Hid (st = ownT (stkG r) r.racers ow k) ∧ Hid (pd = ownT (payG r) r.racers ow k) ∧ Hid (Blk wr K 47 #[.int .i64 ow, .int .i64 st, .int .i64 pd]) ∧ Hid (Fr (fun i => i = K) W3 wr)) (fun _ i _ => r.racers.length - (intOf i).toNat)
    case atStart => exact ⟨0, 0, 0, false, Nat.zero_le _, ⟨by omega, by omega⟩, ⟨by omega, by omega⟩, rfl, rfl, rfl, rfl, rfl, bx, Fr.rf _ _⟩
    case round =>
      clear bx
      obtain ⟨i, st, pd, fb, hi, hst, hpd, rfl, rfl, HFB, HST, HPD, HBX, HF⟩ := hrel
      obtain ⟨wi, rfl⟩ : ∃ wi, wi = wr := ⟨_, rfl⟩
      have gi : G w2 wi := ((G.fr (R := fun _ => False) HG3.out).t2 HF.out (fun i hi e => by have e2 : i = K := e; omega)).toG (fun _ _ h => h)
      have m0 := (HB2.out.keep gi).cell 0
      have l0 := (HB2.out.keep gi).lt
      by_cases hil : i < r.racers.length
      rotate_left
      · obtain rfl : i = r.racers.length := by omega
        have hii : ¬ ((r.racers.length : Nat) : Int) < r.racers.length := by omega
        have hoF := own_Fr HO3.out HF.out (fun g hg e => HOK.out g hg e)
        have HOF := Lib.hid hoF
        have hfa : fb = r.racers.any fun y => y.owner == (ow : Int) := by have := HFB.out; rw [List.take_length] at this; exact this
        have hsu := HSU.out ow
        rw [← hfa, ← HRL.out, ← HST.out, ← HPD.out] at hsu
        have HSUo := Lib.hid hsu
        have hln := HLN.out ow
        rw [← HRL.out] at hln
        have k0 := HBX.out.cell 0
        have k1 := HBX.out.cell 1
        have k2 := HBX.out.cell 2
        have lK := HBX.out.lt
        clear hoF hfa hsu HFB HST HPD HF HBX
        cases fb
        · have HR1 : Hid (RL = rPur r (ow + 1)) := by show _ = _; rw [HSUo.out]; rfl
          clear HSUo
          go_wp2_with fail
          go_roundw
          case rel => exact ⟨ow + 1, RL, by omega, by go_num, HR1.out, HOF.out, gi⟩
          case measure => simp [intOf] <;> omega
        · have HR1 : Hid (RL ++ [(⟨ow, st, pd⟩ : Pu)] = rPur r (ow + 1)) := by show _ = _; rw [HSUo.out]; rfl
          have HOA := Lib.hid (own_G HOF.out ((G.rf wi).a (.cells #[.int .i64 ow, .int .i64 st, .int .i64 pd] 47)))
          have HGI := Lib.hid gi
          clear HSUo
          go_wp2_with (at_builtin; refine wpList_append_own _ rfl _ _ 43 rfl w2.heap.size 47 i0 (.agg #[.int .i64 0, .int .i64 0, .int .i64 0]) 3 24 Tryz.underlying43 hi0 hz0 hz1 hz2 rfl (by decide) _ RL.length (puV RL) rfl HOA.out ⟨wi.heap.size, 0, none⟩ 1 1 [.int .i64 ow, .int .i64 st, .int .i64 pd] rfl rfl (cell_new5 _ _ _) (by simp [Value.oneCell']) (by unfold maxLen; omega) (by omega) (by have h1 := HGI.out.size; simp only [World.alloc, Array.size_push]; omega) ?_; intro v9 w9 hown9 hg9 hnil9)
          have HG9 := Lib.hid (grow_own (HGI.out.a (.cells #[.int .i64 ow, .int .i64 st, .int .i64 pd] 47)) HOA.out (Nat.le_refl _) hg9)
          have HN9 := Lib.hid hown9
          clear hown9 hg9 HOA k0 k1 k2 lK
          go_wp2_with fail
          go_roundw
          case rel => exact ⟨ow + 1, RL ++ [(⟨ow, st, pd⟩ : Pu)], by omega, by go_num, HR1.out, by rw [List.length_append, puV_snoc]; exact HN9.out, HG9.out⟩
          case measure => simp [intOf] <;> omega
      have hii : (i : Int) < r.racers.length := by omega
      have gwi := g2.t gi
      have HOS := Lib.hid (ownT_succ (stkG r) r.racers (ow : Int) hil)
      have HOP := Lib.hid (ownT_succ (payG r) r.racers (ow : Int) hil)
      have HAT := Lib.hid (any_take_succ r.racers (ow : Int) hil)
      have hRPi := HRP.out i hil
      have hPIi := HPI.out i hil
      have hNQi := HNQ.out i hil
      rcases HROW.out with hx | ⟨gr, ofr, hre, hgr, hrc⟩
      · omega
      have hcl := hrc i hil
      rw [hre] at m0
      have m0' : wi.cell? ⟨w.heap.size, 0, none⟩ = some (.slice (some ⟨gr, ofr, none⟩) r.racers.length r.rc) := m0
      obtain ⟨y, hy⟩ : ∃ y, y = r.racers.getD i default := ⟨_, rfl⟩
      rw [← hy] at hcl HOS HOP HAT hRPi hPIi hNQi
      clear hrc hy m0 hre
      rw [← polT_all] at HOS HOP
      have hstk : ∀ t, t < y.pools.length → polT (stkG r) y (t + 1) = polT (stkG r) y t + (r.pools.getD (y.pools.getD t 0).toNat default).stake := fun t ht => polT_succ (stkG r) y ht
      have hpay : ∀ t, t < y.pools.length → polT (payG r) y (t + 1) = polT (payG r) y t + payT (prizesL (fuOf r (y.pools.getD t 0).toNat none 0)) y.bird (prizesL (fuOf r (y.pools.getD t 0).toNat none 0)).length := fun t ht => polT_succ (payG r) y ht
      have HZ1 : Hid (polT (stkG r) y 0 = 0) := rfl
      have HZ2 : Hid (polT (payG r) y 0 = 0) := rfl
      obtain ⟨SF, hSF⟩ : ∃ SF : Nat → Int, SF = polT (stkG r) y := ⟨_, rfl⟩
      obtain ⟨PF, hPF⟩ : ∃ PF : Nat → Int, PF = polT (payG r) y := ⟨_, rfl⟩
      rw [← hSF] at HOS HZ1 hstk
      rw [← hPF] at HOP HZ2 hpay
      clear hSF hPF
      obtain ⟨zbird, zowner, zrank, zday, zpa, zpc, zpools⟩ := y
      unfold Rc.v at hcl
      dsimp only at hcl HOS HOP HAT hRPi hPIi hNQi hstk hpay
      have HSK2 := Lib.hid hstk
      have HPY2 := Lib.hid hpay
      have HRPI := Lib.hid hRPi
      clear hstk hpay hRPi
      have q0 : wi.cell? ⟨gr, ofr + i * 5, none⟩ = some (.int .i64 zbird) := ((bcellB gwi).1 gr _ hgr).trans (hcl 0 (by omega))
      have q1 : wi.cell? ⟨gr, ofr + i * 5 + 1, none⟩ = some (.int .i64 zowner) := ((bcellB gwi).1 gr _ hgr).trans (hcl 1 (by omega))
      have q2 : wi.cell? ⟨gr, ofr + i * 5 + 2, none⟩ = some (.int .i64 zrank) := ((bcellB gwi).1 gr _ hgr).trans (hcl 2 (by omega))
      have q3 : wi.cell? ⟨gr, ofr + i * 5 + 3, none⟩ = some (.int .i64 zday) := ((bcellB gwi).1 gr _ hgr).trans (hcl 3 (by omega))
      have q4 : wi.cell? ⟨gr, ofr + i * 5 + 4, none⟩ = some (.slice zpa zpools.length zpc) := ((bcellB gwi).1 gr _ hgr).trans (hcl 4 (by omega))
      have lg : gr < wi.heap.size := Nat.lt_of_lt_of_le hgr gwi.size
      clear hcl hgr
      go_upto_region 13 with fail
      clear q0 q1 q2 q3 q4 lg m0' l0
      change Code.wp _ _ _ _ (wi.alloc (.cells #[.int .i64 zbird, .int .i64 zowner, .int .i64 zrank, .int .i64 zday, .slice zpa zpools.length zpc] 60))
      obtain ⟨W4, hW4⟩ : ∃ W4, W4 = wi.alloc (.cells #[.int .i64 zbird, .int .i64 zowner, .int .i64 zrank, .int .i64 zday, .slice zpa zpools.length zpc] 60) := ⟨_, rfl⟩
      obtain ⟨gx, hgx⟩ : ∃ gx, gx = wi.heap.size := ⟨_, rfl⟩
      have gb : G wi W4 := by rw [hW4]; exact (G.rf _).a _
      have bz : Blk W4 gx 60 #[.int .i64 zbird, .int .i64 zowner, .int .i64 zrank, .int .i64 zday, .slice zpa zpools.length zpc] := by rw [hW4, hgx]; exact Blk.new _ _ _
      have hKl : K < wi.heap.size := HBX.out.lt
      have hgK : gx ≠ K := by omega
      rw [← hW4, ← hgx]
      have HB4 := Lib.hid (HBX.out.keep gb)
      have HF4 := Lib.hid (HF.out.g gb)
      clear hW4 hgx HBX HF
      have n1 := bz.cell 1
      have ln := bz.lt
      by_cases ho : zowner = (ow : Int)
      rotate_left
      · have hb : (zowner != (ow : Int)) = true := by simpa using ho
        have HA2 : Hid (fb = (r.racers.take (i + 1)).any fun y => y.owner == (ow : Int)) := by
          have e : (zowner == (ow : Int)) = false := by simpa using ho
          show _ = _
          rw [HAT.out, e, Bool.or_false]
          exact HFB.out
        have HS2 : Hid (st = ownT (stkG r) r.racers ow (i + 1)) := by show _ = _; rw [HOS.out, if_neg ho, Int.add_zero]; exact HST.out
        have HP2 : Hid (pd = ownT (payG r) r.racers ow (i + 1)) := by show _ = _; rw [HOP.out, if_neg ho, Int.add_zero]; exact HPD.out
        clear HAT HOS HOP ho
        go_wp2_with fail
        go_roundw
        case rel => exact ⟨i + 1, st, pd, fb, by omega, ⟨hst.1, by omega⟩, ⟨hpd.1, by omega⟩, rfl, by go_num, HA2.out, HS2.out, HP2.out, HB4.out, HF4.out⟩
        case measure => simp [intOf] <;> omega
      have hb : (zowner != (ow : Int)) = false := by simpa using ho
      have HA2 : Hid (true = (r.racers.take (i + 1)).any fun y => y.owner == (ow : Int)) := by
        have e : (zowner == (ow : Int)) = true := by simpa using ho
        show _ = _
        rw [HAT.out, e, Bool.or_true]
      have HS2 : Hid (ownT (stkG r) r.racers ow (i + 1) = st + SF zpools.length) := by show _ = _; rw [HOS.out, if_pos ho, HST.out]
      have HP2 : Hid (ownT (payG r) r.racers ow (i + 1) = pd + PF zpools.length) := by show _ = _; rw [HOP.out, if_pos ho, HPD.out]
      clear HAT HOS HOP ho HST HPD HFB
      go_wp2_with fail
      clear n1 ln
      go_loopw [11] (fun t wr => ∃ (t' : Nat) (st2 pd2 : Int), t' ≤ zpools.length ∧ (0 ≤ st2 ∧ st2 ≤ 100000000 * (i : Int) + 100000 * (t' : Int)) ∧ (0 ≤ pd2 ∧ pd2 ≤ 30000000000 * (i : Int) + 30000000 * (t' : Int)) ∧ t = .int .i64 t' ∧ Hid (st2 = st + SF t') ∧ Hid (pd2 = pd + PF t') ∧ Hid (Blk wr K 47 #[.int .i64 ow, .int .i64 st2, .int .i64 pd2]) ∧ Hid (Fr (fun i => i = K) W4 wr)) (fun t _ => zpools.length - (intOf t).toNat)
      case atStart => exact ⟨0, st, pd, Nat.zero_le _, ⟨hst.1, by omega⟩, ⟨hpd.1, by omega⟩, rfl, by show _ = _; rw [HZ1.out, Int.add_zero], by show _ = _; rw [HZ2.out, Int.add_zero], HB4.out, Fr.rf _ _⟩
      case round =>
        obtain ⟨t, st2, pd2, ht, hst2, hpd2, rfl, HST, HPD, HBX, HF⟩ := hrel
        obtain ⟨wt, rfl⟩ : ∃ wt, wt = wr := ⟨_, rfl⟩
        have bzt := HF.out.blk bz hgK
        have n4 := bzt.cell 4
        have ln := bzt.lt
        by_cases htl : t < zpools.length
        rotate_left
        · obtain rfl : t = zpools.length := by omega
          have hti : ¬ ((zpools.length : Nat) : Int) < zpools.length := by omega
          have HS3 : Hid (st2 = ownT (stkG r) r.racers ow (i + 1)) := by show _ = _; rw [HS2.out]; exact HST.out
          have HP3 : Hid (pd2 = ownT (payG r) r.racers ow (i + 1)) := by show _ = _; rw [HP2.out]; exact HPD.out
          have HFX := Lib.hid (HF4.out.t HF.out)
          clear HST HPD HF bzt
          go_wp2_with fail
          go_roundw
          case rel => exact ⟨i + 1, st2, pd2, true, by omega, ⟨hst2.1, by omega⟩, ⟨hpd2.1, by omega⟩, rfl, by go_num, HA2.out, HS3.out, HP3.out, HBX.out, HFX.out⟩
          case measure => simp [intOf] <;> omega
        have hti : (t : Int) < zpools.length := by omega
        have gt2 : G w2 wt := ((G.fr (R := fun _ => False) HG3.out).t2 (HF4.out.t HF.out) (fun i hi e => by have e2 : i = K := e; omega)).toG (fun _ _ h => h)
        have gwt := g2.t gt2
        have hkr := HRPI.out (zpools.getD t 0) (by rw [List.getD_eq_getElem?_getD, List.getElem?_eq_getElem htl]; exact List.getElem_mem htl)
        have hsu := HSK2.out t htl
        have hpu := HPY2.out t htl
        rcases hPIi with hx | ⟨gq, ofq, hqe, hgq, hqc⟩
        · rw [hx] at htl; simp at htl
        subst hqe
        have z00 := hqc t htl
        have z0 := ((bcellB gwt).1 gq _ hgq).trans z00
        obtain ⟨k, hk⟩ : ∃ k : Nat, zpools.getD t 0 = k := ⟨(zpools.getD t 0).toNat, by omega⟩
        rw [hk] at z0 z00 hkr hsu hpu
        rw [Int.toNat_natCast] at hsu hpu
        have hkn : k < r.pools.length := by omega
        have hki : (k : Int) < r.pools.length := by omega
        rcases HPOW.out with hx | ⟨gp, ofp, hpe, hgp, hpc⟩
        · omega
        have p0 := ((bcellB gwt).1 gp _ hgp).trans (hpc k hkn 0 (by omega))
        have p0' : wt.cell? ⟨gp, ofp + k * 6, none⟩ = some (.int .i64 (r.pools.getD k default).stake) := p0
        have hskb := HSK.out k hkn
        obtain ⟨sk, hsk⟩ : ∃ sk, sk = (r.pools.getD k default).stake := ⟨_, rfl⟩
        rw [← hsk] at p0' hskb hsu
        have HPE := Lib.hid hpe
        have lz : gq < wt.heap.size := Nat.lt_of_lt_of_le hgq gwt.size
        have lp : gp < wt.heap.size := Nat.lt_of_lt_of_le hgp gwt.size
        have HSU2 := Lib.hid hsu
        have HPU2 := Lib.hid hpu
        have HTBk := Lib.hid (HTB.out k hkn zbird)
        obtain ⟨hzl, hzb⟩ := HZL.out k hkn
        have HZB := Lib.hid hzb
        have HPRk := Lib.hid (HPR.out k hkn)
        obtain ⟨ZL, hZL⟩ : ∃ ZL, ZL = prizesL (fuOf r k none 0) := ⟨_, rfl⟩
        rw [← hZL] at HPU2 HTBk hzl HZB HPRk
        clear hZL hsk hk hqc hpc p0 hpe hsu hpu hzb
        have x1 : IntKind.i64.wrap (st2 + sk) = st2 + sk := IntWalk.i64_in _ (by omega)
        have k1 := HBX.out.cell 1
        have y1 := HBX.out.frozen 1
        have lK := HBX.out.lt
        have HBR := Lib.hid (HB2.out.keep gt2)
        go_upto_region 18 with fail
        refine wp_region_Y (S := fun W' => G wt W') 14 15 rfl (by kernel_rfl) (G.rf _).d (fun hS => ?_)
        have gd : G wt wt.drew := (G.rf _).d
        generalize wt.drew = WD at *
        refine wpAnyY_take (i := 0) (v := ?_) rfl (by kernel_rfl) (by kernel_rfl) (by kernel_rfl) (by kernel_rfl) (fun _ _ _ h => h) (Or.inl ⟨by kernel_rfl, ?_⟩) hS ?_
        rotate_left
        · intro w' hSw; go_simp; with_reducible rfl
        try simp only [Act.put, List.getElem_toArray, List.getElem_cons_zero, List.getElem_cons_succ, List.setIfInBounds_toArray, List.set_cons_zero, List.set_cons_succ]
        refine wpAnyY_take (i := 1) (v := ?_) rfl (by kernel_rfl) (by kernel_rfl) (by kernel_rfl) (by kernel_rfl) (fun _ _ _ h => h) (Or.inl ⟨by kernel_rfl, ?_⟩) hS ?_
        rotate_left
        · intro w' hSw; have s0 := ((bcellB hSw).1 K _ lK).trans k1; have s1 : K < w'.heap.size := Nat.lt_of_lt_of_le lK hSw.size; go_simp; with_reducible rfl
        try simp only [Act.put, List.getElem_toArray, List.getElem_cons_zero, List.getElem_cons_succ, List.setIfInBounds_toArray, List.set_cons_zero, List.set_cons_succ]
        refine wpAnyY_take (i := 2) (v := ?_) rfl (by kernel_rfl) (by kernel_rfl) (by kernel_rfl) (by kernel_rfl) (fun _ _ _ h => h) (Or.inl ⟨by kernel_rfl, ?_⟩) hS ?_
        rotate_left
        · intro w' hSw; go_simp; with_reducible rfl
        try simp only [Act.put, List.getElem_toArray, List.getElem_cons_zero, List.getElem_cons_succ, List.setIfInBounds_toArray, List.set_cons_zero, List.set_cons_succ]
        refine wpAnyY_take (i := 3) (v := ?_) rfl (by kernel_rfl) (by kernel_rfl) (by kernel_rfl) (by kernel_rfl) (fun _ _ _ h => h) (Or.inl ⟨by kernel_rfl, ?_⟩) hS ?_
        rotate_left
        · intro w' hSw; have s0 := (HBR.out.keep hSw).cell 1; rw [HPE.out] at s0; have s1 := (HBR.out.keep hSw).lt; go_simp; with_reducible rfl
        try simp only [Act.put, List.getElem_toArray, List.getElem_cons_zero, List.getElem_cons_succ, List.setIfInBounds_toArray, List.set_cons_zero, List.set_cons_succ]
        refine wpAnyY_take (i := 4) (v := ?_) rfl (by kernel_rfl) (by kernel_rfl) (by kernel_rfl) (by kernel_rfl) (fun _ _ _ h => h) (Or.inl ⟨by kernel_rfl, ?_⟩) hS ?_
        rotate_left
        · intro w' hSw; go_simp; with_reducible rfl
        try simp only [Act.put, List.getElem_toArray, List.getElem_cons_zero, List.getElem_cons_succ, List.setIfInBounds_toArray, List.set_cons_zero, List.set_cons_succ]
        refine wpAnyY_take (i := 5) (v := ?_) rfl (by kernel_rfl) (by kernel_rfl) (by kernel_rfl) (by kernel_rfl) (fun _ _ _ h => h) (Or.inl ⟨by kernel_rfl, ?_⟩) hS ?_
        rotate_left
        · intro w' hSw; have s0 := (bzt.keep hSw).cell 4; have s1 := (bzt.keep hSw).lt; go_simp; with_reducible rfl
        try simp only [Act.put, List.getElem_toArray, List.getElem_cons_zero, List.getElem_cons_succ, List.setIfInBounds_toArray, List.set_cons_zero, List.set_cons_succ]
        refine wpAnyY_take (i := 6) (v := ?_) rfl (by kernel_rfl) (by kernel_rfl) (by kernel_rfl) (by kernel_rfl) (fun _ _ _ h => h) (Or.inl ⟨by kernel_rfl, ?_⟩) hS ?_
        rotate_left
        · intro w' hSw; go_simp; with_reducible rfl
        try simp only [Act.put, List.getElem_toArray, List.getElem_cons_zero, List.getElem_cons_succ, List.setIfInBounds_toArray, List.set_cons_zero, List.set_cons_succ]
        refine wpAnyY_take (i := 7) (v := ?_) rfl (by kernel_rfl) (by kernel_rfl) (by kernel_rfl) (by kernel_rfl) (fun _ _ _ h => h) (Or.inl ⟨by kernel_rfl, ?_⟩) hS ?_
        rotate_left
        · intro w' hSw; go_simp; with_reducible rfl
        try simp only [Act.put, List.getElem_toArray, List.getElem_cons_zero, List.getElem_cons_succ, List.setIfInBounds_toArray, List.set_cons_zero, List.set_cons_succ]
        refine wpAnyY_take (i := 8) (v := ?_) rfl (by kernel_rfl) (by kernel_rfl) (by kernel_rfl) (by kernel_rfl) (fun _ _ _ h => h) (Or.inl ⟨by kernel_rfl, ?_⟩) hS ?_
        rotate_left
        · intro w' hSw; have s0 := ((bcellB hSw).1 gq _ lz).trans z0; have s1 : gq < w'.heap.size := Nat.lt_of_lt_of_le lz hSw.size; go_simp; with_reducible rfl
        try simp only [Act.put, List.getElem_toArray, List.getElem_cons_zero, List.getElem_cons_succ, List.setIfInBounds_toArray, List.set_cons_zero, List.set_cons_succ]
        refine wpAnyY_take (i := 9) (v := ?_) rfl (by kernel_rfl) (by kernel_rfl) (by kernel_rfl) (by kernel_rfl) (fun _ _ _ h => h) (Or.inl ⟨by kernel_rfl, ?_⟩) hS ?_
        rotate_left
        · intro w' hSw; go_simp; with_reducible rfl
        try simp only [Act.put, List.getElem_toArray, List.getElem_cons_zero, List.getElem_cons_succ, List.setIfInBounds_toArray, List.set_cons_zero, List.set_cons_succ]
        refine wpAnyY_take (i := 10) (v := ?_) rfl (by kernel_rfl) (by kernel_rfl) (by kernel_rfl) (by kernel_rfl) (fun _ _ _ h => h) (Or.inl ⟨by kernel_rfl, ?_⟩) hS ?_
        rotate_left
        · intro w' hSw; go_simp; with_reducible rfl
        try simp only [Act.put, List.getElem_toArray, List.getElem_cons_zero, List.getElem_cons_succ, List.setIfInBounds_toArray, List.set_cons_zero, List.set_cons_succ]
        refine wpAnyY_take (i := 11) (v := ?_) rfl (by kernel_rfl) (by kernel_rfl) (by kernel_rfl) (by kernel_rfl) (fun _ _ _ h => h) (Or.inl ⟨by kernel_rfl, ?_⟩) hS ?_
        rotate_left
        · intro w' hSw; have s0 := ((bcellB hSw).1 gp _ lp).trans p0'; have s1 : gp < w'.heap.size := Nat.lt_of_lt_of_le lp hSw.size; go_simp; with_reducible rfl
        try simp only [Act.put, List.getElem_toArray, List.getElem_cons_zero, List.getElem_cons_succ, List.setIfInBounds_toArray, List.set_cons_zero, List.set_cons_succ]
        refine wpAnyY_take (i := 12) (v := ?_) rfl (by kernel_rfl) (by kernel_rfl) (by kernel_rfl) (by kernel_rfl) (fun _ _ _ h => h) (Or.inl ⟨by kernel_rfl, ?_⟩) hS ?_
        rotate_left
        · intro w' hSw; go_simp; with_reducible rfl
        try simp only [Act.put, List.getElem_toArray, List.getElem_cons_zero, List.getElem_cons_succ, List.setIfInBounds_toArray, List.set_cons_zero, List.set_cons_succ]
        refine wpAnyY_take (i := 13) (v := ?_) rfl (by kernel_rfl) (by kernel_rfl) (by kernel_rfl) (by kernel_rfl) (fun _ _ _ h => h) (Or.inl ⟨by kernel_rfl, ?_⟩) hS ?_
        rotate_left
        · intro w' hSw; go_simp; with_reducible rfl
        try simp only [Act.put, List.getElem_toArray, List.getElem_cons_zero, List.getElem_cons_succ, List.setIfInBounds_toArray, List.set_cons_zero, List.set_cons_succ]
        have k1d := ((bcellB gd).1 K _ lK).trans k1
        have y1d := ((bcellB gd).2 K _ lK).trans y1
        have lKd : K < WD.heap.size := Nat.lt_of_lt_of_le lK gd.size
        have HBD := Lib.hid (HBX.out.keep gd)
        have HFD := Lib.hid (HF.out.g gd)
        clear hS HBX HF
        refine wpAnyY_oneW (i := 14) (by kernel_rfl) rfl (by kernel_rfl) (by kernel_rfl) (fun K14 hK14 => ?_)
        go_simp
        refine hK14.out _ _ ?_
        clear hK14
        try simp only [Act.put, List.getElem_toArray, List.getElem_cons_zero, List.getElem_cons_succ, List.setIfInBounds_toArray, List.set_cons_zero, List.set_cons_succ]
        refine wpAnyY_done (by kernel_rfl) ?_ _
        have bN := HBD.out.set_ 1 (.int .i64 (st2 + sk))
        simp only [List.setIfInBounds_toArray, List.set_cons_zero, List.set_cons_succ] at bN
        have HBN := Lib.hid bN
        have HFN := Lib.hid (HFD.out.s (p := ⟨K, 1, none⟩) (.inl rfl) (.int .i64 (st2 + sk)))
        clear bN k1d y1d HBD HFD k1 y1 lK lKd lz lp p0' z0 gd ln
        generalize WD.setCell ⟨K, 1, none⟩ (.int .i64 (st2 + sk)) = WA at *
        have gA2 : G w2 WA := ((G.fr (R := fun _ => False) HG3.out).t2 (HF4.out.t HFN.out) (fun i hi e => by have e2 : i = K := e; omega)).toG (fun _ _ h => h)
        have gwA := g2.t gA2
        have bzA := HFN.out.blk bz hgK
        have zA := ((bcellB gwA).1 gq _ hgq).trans z00
        have lzA : gq < WA.heap.size := Nat.lt_of_lt_of_le hgq gwA.size
        have HBR2 := Lib.hid (HB2.out.keep gA2)
        clear HBR bzt
        go_upto_region 19 with fail
        refine wp_region_Y (S := fun W' => G WA W') 7 8 rfl (by kernel_rfl) (G.rf _).d (fun hS => ?_)
        have gd : G WA WA.drew := (G.rf _).d
        generalize WA.drew = WD2 at *
        refine wpAnyY_take (i := 0) (v := ?_) rfl (by kernel_rfl) (by kernel_rfl) (by kernel_rfl) (by kernel_rfl) (fun _ _ _ h => h) (Or.inl ⟨by kernel_rfl, ?_⟩) hS ?_
        rotate_left
        · intro w' hSw; have s0 := (HBR2.out.keep hSw).cell 0; have s1 := (HBR2.out.keep hSw).cell 1; have s2 := (HBR2.out.keep hSw).cell 2; have s3 := (HBR2.out.keep hSw).lt; go_simp; with_reducible rfl
        try simp only [Act.put, List.getElem_toArray, List.getElem_cons_zero, List.getElem_cons_succ, List.setIfInBounds_toArray, List.set_cons_zero, List.set_cons_succ]
        refine wpAnyY_take (i := 1) (v := ?_) rfl (by kernel_rfl) (by kernel_rfl) (by kernel_rfl) (by kernel_rfl) (fun _ _ _ h => h) (Or.inl ⟨by kernel_rfl, ?_⟩) hS ?_
        rotate_left
        · intro w' hSw; go_simp; with_reducible rfl
        try simp only [Act.put, List.getElem_toArray, List.getElem_cons_zero, List.getElem_cons_succ, List.setIfInBounds_toArray, List.set_cons_zero, List.set_cons_succ]
        refine wpAnyY_take (i := 2) (v := ?_) rfl (by kernel_rfl) (by kernel_rfl) (by kernel_rfl) (by kernel_rfl) (fun _ _ _ h => h) (Or.inl ⟨by kernel_rfl, ?_⟩) hS ?_
        rotate_left
        · intro w' hSw; have s0 := (bzA.keep hSw).cell 4; have s1 := (bzA.keep hSw).lt; go_simp; with_reducible rfl
        try simp only [Act.put, List.getElem_toArray, List.getElem_cons_zero, List.getElem_cons_succ, List.setIfInBounds_toArray, List.set_cons_zero, List.set_cons_succ]
        refine wpAnyY_take (i := 3) (v := ?_) rfl (by kernel_rfl) (by kernel_rfl) (by kernel_rfl) (by kernel_rfl) (fun _ _ _ h => h) (Or.inl ⟨by kernel_rfl, ?_⟩) hS ?_
        rotate_left
        · intro w' hSw; go_simp; with_reducible rfl
        try simp only [Act.put, List.getElem_toArray, List.getElem_cons_zero, List.getElem_cons_succ, List.setIfInBounds_toArray, List.set_cons_zero, List.set_cons_succ]
        refine wpAnyY_take (i := 4) (v := ?_) rfl (by kernel_rfl) (by kernel_rfl) (by kernel_rfl) (by kernel_rfl) (fun _ _ _ h => h) (Or.inl ⟨by kernel_rfl, ?_⟩) hS ?_
        rotate_left
        · intro w' hSw; go_simp; with_reducible rfl
        try simp only [Act.put, List.getElem_toArray, List.getElem_cons_zero, List.getElem_cons_succ, List.setIfInBounds_toArray, List.set_cons_zero, List.set_cons_succ]
        refine wpAnyY_take (i := 5) (v := ?_) rfl (by kernel_rfl) (by kernel_rfl) (by kernel_rfl) (by kernel_rfl) (fun _ _ _ h => h) (Or.inl ⟨by kernel_rfl, ?_⟩) hS ?_
        rotate_left
        · intro w' hSw; have s0 := ((bcellB hSw).1 gq _ lzA).trans zA; have s1 : gq < w'.heap.size := Nat.lt_of_lt_of_le lzA hSw.size; go_simp; with_reducible rfl
        try simp only [Act.put, List.getElem_toArray, List.getElem_cons_zero, List.getElem_cons_succ, List.setIfInBounds_toArray, List.set_cons_zero, List.set_cons_succ]
        refine wpAnyY_oneSW (i := 6) (by kernel_rfl) rfl (by kernel_rfl) (fun K6 hK6 => ?_)
        go_simp
        refine (HPRk.out _ (gwA.t gd)).mono ?_
        rintro e w5 ⟨sa, sc, rfl, hzi, hnb, hG5⟩
        have hKD : K < WD2.heap.size := Nat.lt_of_lt_of_le HBN.out.lt gd.size
        have HNK : Hid (∀ g o, sa = some ⟨g, o, none⟩ → 0 < ZL.length → g ≠ K) := fun g o e hl e2 => by have := hnb g o e hl; omega
        clear hnb hKD
        replace gd := gd.t hG5
        refine hK6.out _ _ gd (fun hS => ?_)
        clear hK6
        try simp only [Act.put, List.getElem_toArray, List.getElem_cons_zero, List.getElem_cons_succ, List.setIfInBounds_toArray, List.set_cons_zero, List.set_cons_succ]
        refine wpAnyY_oneW (i := 7) (by kernel_rfl) rfl (by kernel_rfl) (by kernel_rfl) (fun K7 hK7 => ?_)
        go_simp
        refine hK7.out _ _ ?_
        clear hK7
        try simp only [Act.put, List.getElem_toArray, List.getElem_cons_zero, List.getElem_cons_succ, List.setIfInBounds_toArray, List.set_cons_zero, List.set_cons_succ]
        refine wpAnyY_done (by kernel_rfl) ?_ _
        have HB5 := Lib.hid (HBN.out.keep gd)
        have HF5 := Lib.hid (HFN.out.g gd)
        have HZI := Lib.hid hzi
        have g5 := gwA.t gd
        have g25 := gA2.t gd
        have bz5 := bzA.keep gd
        have HZT := Lib.hid (HTBk.out 0 (Nat.zero_le _))
        have hP0 : pd2 + payT ZL zbird 0 = pd2 := by simp [payT]
        have HP0 := Lib.hid hP0
        clear hS hG5 hzi HBN HFN gd bzA zA lzA hP0 HBR2 HPRk x1
        go_wp2_with fail
        go_loopw [13] (fun m wr => ∃ (m' : Nat) (pd3 : Int), m' ≤ ZL.length ∧ m = .int .i64 m' ∧ Hid (pd3 = pd2 + payT ZL zbird m') ∧ Hid (Blk wr K 47 #[.int .i64 ow, .int .i64 (st2 + sk), .int .i64 pd3]) ∧ Hid (Fr (fun i => i = K) w5 wr)) (fun m _ => ZL.length - (intOf m).toNat)
        case atStart => exact ⟨0, pd2, Nat.zero_le _, rfl, HP0.out.symm, HB5.out, Fr.rf _ _⟩
        case round =>
          obtain ⟨m, pd3, hm, rfl, HP3, HBX, HF⟩ := hrel
          obtain ⟨wm, rfl⟩ : ∃ wm, wm = wr := ⟨_, rfl⟩
          by_cases hml : m < ZL.length
          rotate_left
          · obtain rfl : m = ZL.length := by omega
            have hmi : ¬ ((ZL.length : Nat) : Int) < ZL.length := by omega
            have hb3 := HTBk.out ZL.length (Nat.le_refl _)
            have hpu := HPU2.out
            have hp3 := HP3.out
            have hpd3 : 0 ≤ pd3 ∧ pd3 ≤ pd2 + 30000000 := by omega
            have HS3 : Hid (st2 + sk = st + SF (t + 1)) := by show _ = _; rw [HSU2.out, HST.out]; omega
            have HP4 : Hid (pd3 = pd + PF (t + 1)) := by show _ = _; rw [HP3.out, HPU2.out, HPD.out]; omega
            have HFX := Lib.hid (HF5.out.t HF.out)
            clear hpu hp3 HP3 HPD hb3 HF
            go_wp2_with fail
            go_roundw
            case rel => exact ⟨t + 1, st2 + sk, pd3, by omega, ⟨by omega, by omega⟩, ⟨hpd3.1, by omega⟩, by go_num, HS3.out, HP4.out, HBX.out, HFX.out⟩
            case measure => simp [intOf] <;> omega
          have hmi : (m : Int) < ZL.length := by omega
          have gm2 : G w2 wm := ((G.fr (R := fun _ => False) g25).t2 HF.out (fun i hi e => by have e2 : i = K := e; omega)).toG (fun _ _ h => h)
          have bzm := HF.out.blk bz5 hgK
          have hb1 := HTBk.out m (by omega)
          have hb2 := HTBk.out (m + 1) (by omega)
          have hzb := HZB.out m hml
          have hsu := payT_succ ZL zbird hml
          rcases HZI.out with hx | ⟨gs, ofs, hse, hgs, hsc⟩
          · omega
          have hcm := hsc m hml
          have hgsK : gs ≠ K := HNK.out gs ofs hse (by omega)
          have hsm : ∀ u, wm.cell? ⟨gs, u, none⟩ = w5.cell? ⟨gs, u, none⟩ := fun u => by
            have e := HF.out.block gs hgs hgsK
            simp only [World.cell?]
            rw [e]
          have c0 : wm.cell? ⟨gs, ofs + m * 3, none⟩ = some (.int .i64 (ZL.getD m default).bird) := (hsm _).trans (hcm 0 (by omega))
          have c1 : wm.cell? ⟨gs, ofs + m * 3 + 1, none⟩ = some (.int .i64 (ZL.getD m default).won) := (hsm _).trans (hcm 1 (by omega))
          have c2 : wm.cell? ⟨gs, ofs + m * 3 + 2, none⟩ = some (.int .i64 (ZL.getD m default).back) := (hsm _).trans (hcm 2 (by omega))
          have ls : gs < wm.heap.size := Nat.lt_of_lt_of_le hgs HF.out.size
          obtain ⟨⟨xb, xw, xk⟩, hX⟩ : ∃ X, X = ZL.getD m default := ⟨_, rfl⟩
          rw [← hX] at c0 c1 c2 hsu hzb
          dsimp only at c0 c1 c2 hsu hzb
          subst hse
          have hp3 := HP3.out
          have hpb : 0 ≤ pd3 ∧ pd3 ≤ 30000000000 * (i : Int) + 30000000 * (t : Int) + 30000000 := by omega
          have HSU3 := Lib.hid hsu
          clear hX hsm hcm hsc hsu hp3 hb1 hb2
          have n0 := bzm.cell 0
          have ln := bzm.lt
          have k2 := HBX.out.cell 2
          have y2 := HBX.out.frozen 2
          have lK := HBX.out.lt
          go_upto_region 23 with fail
          refine wp_region_Y (S := fun W' => G wm W') 7 8 rfl (by kernel_rfl) (G.rf _).d (fun hS => ?_)
          have gd : G wm wm.drew := (G.rf _).d
          generalize wm.drew = WD3 at *
          refine wpAnyY_take (i := 0) (v := ?_) rfl (by kernel_rfl) (by kernel_rfl) (by kernel_rfl) (by kernel_rfl) (fun _ _ _ h => h) (Or.inl ⟨by kernel_rfl, ?_⟩) hS ?_
          rotate_left
          · intro w' hSw; go_simp; with_reducible rfl
          try simp only [Act.put, List.getElem_toArray, List.getElem_cons_zero, List.getElem_cons_succ, List.setIfInBounds_toArray, List.set_cons_zero, List.set_cons_succ]
          refine wpAnyY_take (i := 1) (v := ?_) rfl (by kernel_rfl) (by kernel_rfl) (by kernel_rfl) (by kernel_rfl) (fun _ _ _ h => h) (Or.inl ⟨by kernel_rfl, ?_⟩) hS ?_
          rotate_left
          · intro w' hSw; go_simp; with_reducible rfl
          try simp only [Act.put, List.getElem_toArray, List.getElem_cons_zero, List.getElem_cons_succ, List.setIfInBounds_toArray, List.set_cons_zero, List.set_cons_succ]
          refine wpAnyY_take (i := 2) (v := ?_) rfl (by kernel_rfl) (by kernel_rfl) (by kernel_rfl) (by kernel_rfl) (fun _ _ _ h => h) (Or.inl ⟨by kernel_rfl, ?_⟩) hS ?_
          rotate_left
          · intro w' hSw; go_simp; with_reducible rfl
          try simp only [Act.put, List.getElem_toArray, List.getElem_cons_zero, List.getElem_cons_succ, List.setIfInBounds_toArray, List.set_cons_zero, List.set_cons_succ]
          refine wpAnyY_take (i := 3) (v := ?_) rfl (by kernel_rfl) (by kernel_rfl) (by kernel_rfl) (by kernel_rfl) (fun _ _ _ h => h) (Or.inl ⟨by kernel_rfl, ?_⟩) hS ?_
          rotate_left
          · intro w' hSw; go_simp; with_reducible rfl
          try simp only [Act.put, List.getElem_toArray, List.getElem_cons_zero, List.getElem_cons_succ, List.setIfInBounds_toArray, List.set_cons_zero, List.set_cons_succ]
          refine wpAnyY_take (i := 4) (v := ?_) rfl (by kernel_rfl) (by kernel_rfl) (by kernel_rfl) (by kernel_rfl) (fun _ _ _ h => h) (Or.inl ⟨by kernel_rfl, ?_⟩) hS ?_
          rotate_left
          · intro w' hSw; have s0 := ((bcellB hSw).1 gs _ ls).trans c0; have s1 : gs < w'.heap.size := Nat.lt_of_lt_of_le ls hSw.size; go_simp; with_reducible rfl
          try simp only [Act.put, List.getElem_toArray, List.getElem_cons_zero, List.getElem_cons_succ, List.setIfInBounds_toArray, List.set_cons_zero, List.set_cons_succ]
          refine wpAnyY_take (i := 5) (v := ?_) rfl (by kernel_rfl) (by kernel_rfl) (by kernel_rfl) (by kernel_rfl) (fun _ _ _ h => h) (Or.inl ⟨by kernel_rfl, ?_⟩) hS ?_
          rotate_left
          · intro w' hSw; go_simp; with_reducible rfl
          try simp only [Act.put, List.getElem_toArray, List.getElem_cons_zero, List.getElem_cons_succ, List.setIfInBounds_toArray, List.set_cons_zero, List.set_cons_succ]
          refine wpAnyY_take (i := 6) (v := ?_) rfl (by kernel_rfl) (by kernel_rfl) (by kernel_rfl) (by kernel_rfl) (fun _ _ _ h => h) (Or.inl ⟨by kernel_rfl, ?_⟩) hS ?_
          rotate_left
          · intro w' hSw; have s0 := ((bcellB hSw).1 gx _ ln).trans n0; have s1 : gx < w'.heap.size := Nat.lt_of_lt_of_le ln hSw.size; go_simp; with_reducible rfl
          try simp only [Act.put, List.getElem_toArray, List.getElem_cons_zero, List.getElem_cons_succ, List.setIfInBounds_toArray, List.set_cons_zero, List.set_cons_succ]
          refine wpAnyY_oneW (i := 7) (by kernel_rfl) rfl (by kernel_rfl) (by kernel_rfl) (fun K7 hK7 => ?_)
          go_simp
          refine hK7.out _ _ ?_
          clear hK7
          try simp only [Act.put, List.getElem_toArray, List.getElem_cons_zero, List.getElem_cons_succ, List.setIfInBounds_toArray, List.set_cons_zero, List.set_cons_succ]
          refine wpAnyY_done (by kernel_rfl) ?_ _
          have HB6 := Lib.hid (HBX.out.keep gd)
          have HF6 := Lib.hid (HF.out.g gd)
          by_cases he : xb = zbird
          rotate_left
          · have hbb : (xb == zbird) = false := by simpa using he
            have HP5 : Hid (pd3 = pd2 + payT ZL zbird (m + 1)) := by show _ = _; rw [HSU3.out, if_neg he, Int.add_zero]; exact HP3.out
            clear n0 ln k2 y2 lK c0 c1 c2 ls hS he HBX HF HSU3 HP3
            go_wp2_with fail
            go_roundw
            case rel => exact ⟨m + 1, pd3, by omega, by go_num, HP5.out, HB6.out, HF6.out⟩
            case measure => simp [intOf] <;> omega
          · have hbb : (xb == zbird) = true := by simpa using he
            have HP5 : Hid (pd3 + (xw + xk) = pd2 + payT ZL zbird (m + 1)) := by show _ = _; rw [HSU3.out, if_pos he, HP3.out]; omega
            have x1 : IntKind.i64.wrap (xw + xk) = xw + xk := IntWalk.i64_in _ (by omega)
            have x2 : IntKind.i64.wrap (pd3 + (xw + xk)) = pd3 + (xw + xk) := IntWalk.i64_in _ (by omega)
            have k2d := ((bcellB gd).1 K _ lK).trans k2
            have y2d := ((bcellB gd).2 K _ lK).trans y2
            have lKd : K < WD3.heap.size := Nat.lt_of_lt_of_le lK gd.size
            have c1d := ((bcellB gd).1 gs _ ls).trans c1
            have c2d := ((bcellB gd).1 gs _ ls).trans c2
            have lsd : gs < WD3.heap.size := Nat.lt_of_lt_of_le ls gd.size
            clear n0 ln k2 y2 lK c0 c1 c2 ls hS he HBX HF HSU3 HP3 gd
            go_upto_region 24 with fail
            refine wp_region_Y (S := fun W' => G WD3 W') 15 16 rfl (by kernel_rfl) (G.rf _).d (fun hS => ?_)
            have gd : G WD3 WD3.drew := (G.rf _).d
            generalize WD3.drew = WD4 at *
            refine wpAnyY_take (i := 0) (v := ?_) rfl (by kernel_rfl) (by kernel_rfl) (by kernel_rfl) (by kernel_rfl) (fun _ _ _ h => h) (Or.inl ⟨by kernel_rfl, ?_⟩) hS ?_
            rotate_left
            · intro w' hSw; go_simp; with_reducible rfl
            try simp only [Act.put, List.getElem_toArray, List.getElem_cons_zero, List.getElem_cons_succ, List.setIfInBounds_toArray, List.set_cons_zero, List.set_cons_succ]
            refine wpAnyY_take (i := 1) (v := ?_) rfl (by kernel_rfl) (by kernel_rfl) (by kernel_rfl) (by kernel_rfl) (fun _ _ _ h => h) (Or.inl ⟨by kernel_rfl, ?_⟩) hS ?_
            rotate_left
            · intro w' hSw; have s0 := ((bcellB hSw).1 K _ lKd).trans k2d; have s1 : K < w'.heap.size := Nat.lt_of_lt_of_le lKd hSw.size; go_simp; with_reducible rfl
            try simp only [Act.put, List.getElem_toArray, List.getElem_cons_zero, List.getElem_cons_succ, List.setIfInBounds_toArray, List.set_cons_zero, List.set_cons_succ]
            refine wpAnyY_take (i := 2) (v := ?_) rfl (by kernel_rfl) (by kernel_rfl) (by kernel_rfl) (by kernel_rfl) (fun _ _ _ h => h) (Or.inl ⟨by kernel_rfl, ?_⟩) hS ?_
            rotate_left
            · intro w' hSw; go_simp; with_reducible rfl
            try simp only [Act.put, List.getElem_toArray, List.getElem_cons_zero, List.getElem_cons_succ, List.setIfInBounds_toArray, List.set_cons_zero, List.set_cons_succ]
            refine wpAnyY_take (i := 3) (v := ?_) rfl (by kernel_rfl) (by kernel_rfl) (by kernel_rfl) (by kernel_rfl) (fun _ _ _ h => h) (Or.inl ⟨by kernel_rfl, ?_⟩) hS ?_
            rotate_left
            · intro w' hSw; go_simp; with_reducible rfl
            try simp only [Act.put, List.getElem_toArray, List.getElem_cons_zero, List.getElem_cons_succ, List.setIfInBounds_toArray, List.set_cons_zero, List.set_cons_succ]
            refine wpAnyY_take (i := 4) (v := ?_) rfl (by kernel_rfl) (by kernel_rfl) (by kernel_rfl) (by kernel_rfl) (fun _ _ _ h => h) (Or.inl ⟨by kernel_rfl, ?_⟩) hS ?_
            rotate_left
            · intro w' hSw; go_simp; with_reducible rfl
            try simp only [Act.put, List.getElem_toArray, List.getElem_cons_zero, List.getElem_cons_succ, List.setIfInBounds_toArray, List.set_cons_zero, List.set_cons_succ]
            refine wpAnyY_take (i := 5) (v := ?_) rfl (by kernel_rfl) (by kernel_rfl) (by kernel_rfl) (by kernel_rfl) (fun _ _ _ h => h) (Or.inl ⟨by kernel_rfl, ?_⟩) hS ?_
            rotate_left
            · intro w' hSw; go_simp; with_reducible rfl
            try simp only [Act.put, List.getElem_toArray, List.getElem_cons_zero, List.getElem_cons_succ, List.setIfInBounds_toArray, List.set_cons_zero, List.set_cons_succ]
            refine wpAnyY_take (i := 6) (v := ?_) rfl (by kernel_rfl) (by kernel_rfl) (by kernel_rfl) (by kernel_rfl) (fun _ _ _ h => h) (Or.inl ⟨by kernel_rfl, ?_⟩) hS ?_
            rotate_left
            · intro w' hSw; have s0 := ((bcellB hSw).1 gs _ lsd).trans c1d; have s1 : gs < w'.heap.size := Nat.lt_of_lt_of_le lsd hSw.size; go_simp; with_reducible rfl
            try simp only [Act.put, List.getElem_toArray, List.getElem_cons_zero, List.getElem_cons_succ, List.setIfInBounds_toArray, List.set_cons_zero, List.set_cons_succ]
            refine wpAnyY_take (i := 7) (v := ?_) rfl (by kernel_rfl) (by kernel_rfl) (by kernel_rfl) (by kernel_rfl) (fun _ _ _ h => h) (Or.inl ⟨by kernel_rfl, ?_⟩) hS ?_
            rotate_left
            · intro w' hSw; go_simp; with_reducible rfl
            try simp only [Act.put, List.getElem_toArray, List.getElem_cons_zero, List.getElem_cons_succ, List.setIfInBounds_toArray, List.set_cons_zero, List.set_cons_succ]
            refine wpAnyY_take (i := 8) (v := ?_) rfl (by kernel_rfl) (by kernel_rfl) (by kernel_rfl) (by kernel_rfl) (fun _ _ _ h => h) (Or.inl ⟨by kernel_rfl, ?_⟩) hS ?_
            rotate_left
            · intro w' hSw; go_simp; with_reducible rfl
            try simp only [Act.put, List.getElem_toArray, List.getElem_cons_zero, List.getElem_cons_succ, List.setIfInBounds_toArray, List.set_cons_zero, List.set_cons_succ]
            refine wpAnyY_take (i := 9) (v := ?_) rfl (by kernel_rfl) (by kernel_rfl) (by kernel_rfl) (by kernel_rfl) (fun _ _ _ h => h) (Or.inl ⟨by kernel_rfl, ?_⟩) hS ?_
            rotate_left
            · intro w' hSw; go_simp; with_reducible rfl
            try simp only [Act.put, List.getElem_toArray, List.getElem_cons_zero, List.getElem_cons_succ, List.setIfInBounds_toArray, List.set_cons_zero, List.set_cons_succ]
            refine wpAnyY_take (i := 10) (v := ?_) rfl (by kernel_rfl) (by kernel_rfl) (by kernel_rfl) (by kernel_rfl) (fun _ _ _ h => h) (Or.inl ⟨by kernel_rfl, ?_⟩) hS ?_
            rotate_left
            · intro w' hSw; go_simp; with_reducible rfl
            try simp only [Act.put, List.getElem_toArray, List.getElem_cons_zero, List.getElem_cons_succ, List.setIfInBounds_toArray, List.set_cons_zero, List.set_cons_succ]
            refine wpAnyY_take (i := 11) (v := ?_) rfl (by kernel_rfl) (by kernel_rfl) (by kernel_rfl) (by kernel_rfl) (fun _ _ _ h => h) (Or.inl ⟨by kernel_rfl, ?_⟩) hS ?_
            rotate_left
            · intro w' hSw; have s0 := ((bcellB hSw).1 gs _ lsd).trans c2d; have s1 : gs < w'.heap.size := Nat.lt_of_lt_of_le lsd hSw.size; go_simp; with_reducible rfl
            try simp only [Act.put, List.getElem_toArray, List.getElem_cons_zero, List.getElem_cons_succ, List.setIfInBounds_toArray, List.set_cons_zero, List.set_cons_succ]
            refine wpAnyY_take (i := 12) (v := ?_) rfl (by kernel_rfl) (by kernel_rfl) (by kernel_rfl) (by kernel_rfl) (fun _ _ _ h => h) (Or.inl ⟨by kernel_rfl, ?_⟩) hS ?_
            rotate_left
            · intro w' hSw; go_simp; with_reducible rfl
            try simp only [Act.put, List.getElem_toArray, List.getElem_cons_zero, List.getElem_cons_succ, List.setIfInBounds_toArray, List.set_cons_zero, List.set_cons_succ]
            refine wpAnyY_take (i := 13) (v := ?_) rfl (by kernel_rfl) (by kernel_rfl) (by kernel_rfl) (by kernel_rfl) (fun _ _ _ h => h) (Or.inl ⟨by kernel_rfl, ?_⟩) hS ?_
            rotate_left
            · intro w' hSw; go_simp; with_reducible rfl
            try simp only [Act.put, List.getElem_toArray, List.getElem_cons_zero, List.getElem_cons_succ, List.setIfInBounds_toArray, List.set_cons_zero, List.set_cons_succ]
            refine wpAnyY_take (i := 14) (v := ?_) rfl (by kernel_rfl) (by kernel_rfl) (by kernel_rfl) (by kernel_rfl) (fun _ _ _ h => h) (Or.inl ⟨by kernel_rfl, ?_⟩) hS ?_
            rotate_left
            · intro w' hSw; go_simp; with_reducible rfl
            try simp only [Act.put, List.getElem_toArray, List.getElem_cons_zero, List.getElem_cons_succ, List.setIfInBounds_toArray, List.set_cons_zero, List.set_cons_succ]
            have k3d := ((bcellB gd).1 K _ lKd).trans k2d
            have y3d := ((bcellB gd).2 K _ lKd).trans y2d
            have lK3 : K < WD4.heap.size := Nat.lt_of_lt_of_le lKd gd.size
            have HB7 := Lib.hid (HB6.out.keep gd)
            have HF7 := Lib.hid (HF6.out.g gd)
            clear hS HB6 HF6
            refine wpAnyY_oneW (i := 15) (by kernel_rfl) rfl (by kernel_rfl) (by kernel_rfl) (fun K15 hK15 => ?_)
            go_simp
            refine hK15.out _ _ ?_
            clear hK15
            try simp only [Act.put, List.getElem_toArray, List.getElem_cons_zero, List.getElem_cons_succ, List.setIfInBounds_toArray, List.set_cons_zero, List.set_cons_succ]
            refine wpAnyY_done (by kernel_rfl) ?_ _
            have bN := HB7.out.set_ 2 (.int .i64 (pd3 + (xw + xk)))
            simp only [List.setIfInBounds_toArray, List.set_cons_zero, List.set_cons_succ] at bN
            have HBN := Lib.hid bN
            have HFN := Lib.hid (HF7.out.s (p := ⟨K, 2, none⟩) (.inl rfl) (.int .i64 (pd3 + (xw + xk))))
            clear bN k3d y3d k2d y2d c1d c2d HB7 HF7
            go_wp2_with fail
            go_roundw
            case rel => exact ⟨m + 1, pd3 + (xw + xk), by omega, by go_num, HP5.out, HBN.out, HFN.out⟩
            case measure => simp [intOf] <;> omega

end Go.Proofs.YtnkmcoljijmgpaaGreat

set_option linter.unusedSimpArgs false
set_option linter.unusedVariables false
namespace Go.Proofs.YtnkmcoljijmgpaaGreat
open Go.RowKit Go.Shelf Go.Sort Go.Maps
attribute [local go_sem] Oper.semAt_some
def PUX (r : Ra) : List Pu := if raceB r = true then pursesL r else []
theorem puX_of {r : Ra} {w w' : World} {e : Ending} (h : PuPost r w e w') : G w w' ∧ ∃ a c, e = .returned (.tuple #[.slice a (PUX r).length c, .int .i64 (chk8 r)]) ∧ RowE Pu.v 3 w' a (PUX r) := by
  obtain ⟨hG, ⟨h1, rfl⟩ | ⟨h1, v, rfl, ho⟩⟩ := h
  · refine ⟨hG, none, 0, ?_, ?_⟩ <;> unfold PUX
    · unfold chk8; rw [h1]; rfl
    · rw [h1]; exact .inl rfl
  · have e : puV (pursesL r) = cv Pu.v (pursesL r) := rfl
    rw [e] at ho
    obtain ⟨a, c, rfl, hI⟩ := own_rowE (v := Pu.v) (k := 3) (fun _ => rfl) ho
    refine ⟨hG, a, c, ?_, ?_⟩ <;> unfold PUX
    · unfold chk8; rw [h1]; rfl
    · rw [h1]; exact hI
theorem puX_copy {r o : Ra} (her : o.racers.map rcP = r.racers.map rcP) (hps : o.pools.map poP = r.pools.map poP) (hpr : o.protests = r.protests) : PUX o = PUX r := by
  have hb := race_copy her hps hpr
  unfold PUX
  rw [hb]
  cases hr : raceB r
  · rfl
  · rw [pursesE (req_copy hr her hps hpr).1]
theorem puX_len {r : Ra} : (PUX r).length ≤ 1000 := by
  unfold PUX
  split
  · rename_i h
    rw [← rPur_all h]
    have := rPur_len r 100
    omega
  · simp
set_option maxRecDepth 100000 in
set_option maxHeartbeats 16000000 in
theorem WonLaw (r : Ra) (p : Int) (w : World) (h : r.Laid w) (hn : r.Nil) : Calls Tryz.prog 11 #[.agg r.v, .int .i64 p] w fun e w' => e = .returned (.bool true) ∧ G w w' := by
  have HFA := Lib.hid (fun (W : World) (hW : G w W) => Far8_any r W (h.keep hW))
  have HWK := Lib.hid (fun (W : World) => works_any W)
  have hrv : r.v = #[.slice r.ra r.racers.length r.rc, .slice r.pa r.pools.length r.pc, .slice r.ta r.protests.length r.tc] := rfl
  obtain ⟨W1, hW1⟩ : ∃ W1, W1 = w.alloc (.cells #[.slice r.ra r.racers.length r.rc, .slice r.pa r.pools.length r.pc, .slice r.ta r.protests.length r.tc] 26) := ⟨_, rfl⟩
  have g00 : G w W1 := by rw [hW1]; exact (G.rf _).a _
  have b0 : Blk W1 w.heap.size 26 #[.slice r.ra r.racers.length r.rc, .slice r.pa r.pools.length r.pc, .slice r.ta r.protests.length r.tc] := by rw [hW1]; exact Blk.new _ _ _
  rw [hrv] at HFA ⊢
  go_enter Tryz.func11, Tryz.ntmps11
  go_upto_region 1 with fail
  change Code.wp _ _ _ _ (w.alloc (.cells #[.slice r.ra r.racers.length r.rc, .slice r.pa r.pools.length r.pc, .slice r.ta r.protests.length r.tc] 26))
  rw [← hW1]
  clear hW1
  have m0 := b0.cell 0
  have m1 := b0.cell 1
  have m2 := b0.cell 2
  have l0 := b0.lt
  cases hFB : farR r
  rotate_left
  · rw [hFB] at HFA
    clear h hn
    go_wp2_with (first | (go_at_call 13; refine (HFA.out _ g00).mono ?_; rintro e w2 ⟨rfl, hG2⟩) | (go_at_call 15; refine (HWK.out _).mono ?_; rintro e w3 ⟨rfl, hG3⟩))
    have gz := (g00.t hG2).t hG3
    first | exact ⟨rfl, gz⟩ | (go_ret; exact ⟨rfl, gz⟩)
  rw [hFB] at HFA
  have hat := h.at hFB
  have HCP := Lib.hid (fun (W : World) (hW : G w W) => (show Calls Tryz.prog 24 #[.agg r.v] W (fun e w' => G W w' ∧ ∃ o : Ra, e = .returned (.agg #[.slice o.ra o.racers.length o.rc, .slice o.pa o.pools.length o.pc, .slice o.ta o.protests.length o.tc]) ∧ CpIs w' W.heap.size r o) from Copy_any r W (hat.keep hW) hn))
  rw [hrv] at HCP
  clear h hn hFB
  go_upto_region 4 with (first | (go_at_call 13; refine (HFA.out _ g00).mono ?_; rintro e w2 ⟨rfl, hG2⟩; have b02 := b0.keep hG2; have g2 := g00.t hG2; clear m0 m1 m2 l0; have m0 := b02.cell 0; have m1 := b02.cell 1; have m2 := b02.cell 2; have l0 := b02.lt) | (go_at_call 24; refine (HCP.out _ g2).mono ?_; rintro e w3 ⟨hG3, o, rfl, hCP⟩))
  have g04 := (g2.t hG3).a (.cells #[.slice o.ra o.racers.length o.rc, .slice o.pa o.pools.length o.pc, .slice o.ta o.protests.length o.tc] 26)
  have hB0 := (b02.keep hG3).alloc (.cells #[.slice o.ra o.racers.length o.rc, .slice o.pa o.pools.length o.pc, .slice o.ta o.protests.length o.tc] 26)
  have hBK := Blk.new w3 26 #[.slice o.ra o.racers.length o.rc, .slice o.pa o.pools.length o.pc, .slice o.ta o.protests.length o.tc]
  have hoA3 := copy_at ((hat.keep (g2.t hG3))) hCP
  have hoA := hoA3.keep ((G.rf w3).a (.cells #[.slice o.ra o.racers.length o.rc, .slice o.pa o.pools.length o.pc, .slice o.ta o.protests.length o.tc] 26))
  obtain ⟨hq, hx1, hx2, hx3, hx4⟩ := copy_X hCP.er hCP.ep hCP.et p
  have hrb := race_copy hCP.er hCP.ep hCP.et
  have hr4 := hat.keep g04
  have HC18 : Hid (∀ W, G (w3.alloc (.cells #[.slice o.ra o.racers.length o.rc, .slice o.pa o.pools.length o.pc, .slice o.ta o.protests.length o.tc] 26)) W → Calls Tryz.prog 18 #[.agg #[.slice o.ra o.racers.length o.rc, .slice o.pa o.pools.length o.pc, .slice o.ta o.protests.length o.tc], .int .i64 p] W fun e w' => G W w' ∧ ∃ a c, e = .returned (.tuple #[.slice a (PZX r p).length c, .int .i64 (qE r p [])]) ∧ RowE Pz.v 3 w' a (PZX r p)) := fun W hW => by
    have hc := (Prizes_any o p W (hoA.keep hW)).mono fun _ _ hh => pzX_of (show PrPostR o p W _ _ from hh)
    rw [hq, hx3] at hc
    exact hc
  have HC38 : Hid (∀ W, G (w3.alloc (.cells #[.slice o.ra o.racers.length o.rc, .slice o.pa o.pools.length o.pc, .slice o.ta o.protests.length o.tc] 26)) W → Calls Tryz.prog 38 #[.agg #[.slice r.ra r.racers.length r.rc, .slice r.pa r.pools.length r.pc, .slice r.ta r.protests.length r.tc], .int .i64 p] W fun e w' => G W w' ∧ ∃ a c, e = .returned (.tuple #[.slice a (PZX r p).length c, .int .i64 (qE r p [])]) ∧ RowE Pz.v 3 w' a (PZX r p)) := fun W hW => (rPrizes_any r p W (hr4.keep hW)).mono fun _ _ hh => pzX_of hh
  have hpx := puX_copy hCP.er hCP.ep hCP.et
  have hck : chk8 o = chk8 r := by unfold chk8; rw [hrb]
  have HC19 : Hid (∀ W, G (w3.alloc (.cells #[.slice o.ra o.racers.length o.rc, .slice o.pa o.pools.length o.pc, .slice o.ta o.protests.length o.tc] 26)) W → Calls Tryz.prog 19 #[.agg #[.slice o.ra o.racers.length o.rc, .slice o.pa o.pools.length o.pc, .slice o.ta o.protests.length o.tc]] W fun e w' => G W w' ∧ ∃ a c, e = .returned (.tuple #[.slice a (PUX r).length c, .int .i64 (chk8 r)]) ∧ RowE Pu.v 3 w' a (PUX r)) := fun W hW => by
    have hc := (Purses_any o W (hoA.keep hW)).mono fun _ _ hh => puX_of hh
    rw [hpx, hck] at hc
    exact hc
  have HC39 : Hid (∀ W, G (w3.alloc (.cells #[.slice o.ra o.racers.length o.rc, .slice o.pa o.pools.length o.pc, .slice o.ta o.protests.length o.tc] 26)) W → Calls Tryz.prog 39 #[.agg #[.slice r.ra r.racers.length r.rc, .slice r.pa r.pools.length r.pc, .slice r.ta r.protests.length r.tc]] W fun e w' => G W w' ∧ ∃ a c, e = .returned (.tuple #[.slice a (PUX r).length c, .int .i64 (chk8 r)]) ∧ RowE Pu.v 3 w' a (PUX r)) := fun W hW => (rPurses_any r W (hr4.keep hW)).mono fun _ _ hh => puX_of hh
  obtain ⟨_, _, _, hl1⟩ := X_len (r := r) hat.nr p
  have hl2 : (PUX r).length ≤ 1000 := puX_len
  generalize qE r p [] = QE at *
  generalize PZX r p = ZL at *
  generalize PUX r = PL at *
  generalize chk8 r = CE at *
  have HB0 := Lib.hid hB0
  have HBK := Lib.hid hBK
  clear hB0 hBK hoA3 hoA hq hx1 hx2 hx3 hx4 hrb hr4 hpx hck hCP hG3 hG2 g2 b02 b0 g00 m0 m1 m2 l0 hat HCP HFA hrv
  change Code.wp _ _ _ _ (w3.alloc (.cells #[.slice o.ra o.racers.length o.rc, .slice o.pa o.pools.length o.pc, .slice o.ta o.protests.length o.tc] 26))
  obtain ⟨K, hK⟩ : ∃ K, K = w3.heap.size := ⟨_, rfl⟩
  rw [← hK] at HBK ⊢
  clear hK
  generalize w3.alloc (.cells #[.slice o.ra o.racers.length o.rc, .slice o.pa o.pools.length o.pc, .slice o.ta o.protests.length o.tc] 26) = W4 at *
  have g0 : G W4 W4 := G.rf _
  have m0 := (HBK.out.keep g0).cell 0
  have m1 := (HBK.out.keep g0).cell 1
  have m2 := (HBK.out.keep g0).cell 2
  have l0 := (HBK.out.keep g0).lt
  go_upto_region 5 with (go_at_call 18; refine (HC18.out _ g0).mono ?_; rintro e v0 ⟨hG0, a1, c1, rfl, hi1⟩)
  clear m0 m1 m2 l0
  have g1 := g0.t hG0
  have m0 := (HB0.out.keep g1).cell 0
  have m1 := (HB0.out.keep g1).cell 1
  have m2 := (HB0.out.keep g1).cell 2
  have l0 := (HB0.out.keep g1).lt
  go_upto_region 6 with (go_at_call 38; refine (HC38.out _ g1).mono ?_; rintro e v1 ⟨hG1, a2, c2, rfl, hi2⟩)
  clear m0 m1 m2 l0
  have g2 := g1.t hG1
  have m0 := (HBK.out.keep g2).cell 0
  have m1 := (HBK.out.keep g2).cell 1
  have m2 := (HBK.out.keep g2).cell 2
  have l0 := (HBK.out.keep g2).lt
  go_upto_region 7 with (go_at_call 19; refine (HC19.out _ g2).mono ?_; rintro e v2 ⟨hG2, b1, d1, rfl, hj1⟩)
  clear m0 m1 m2 l0
  have g3 := g2.t hG2
  have m0 := (HB0.out.keep g3).cell 0
  have m1 := (HB0.out.keep g3).cell 1
  have m2 := (HB0.out.keep g3).cell 2
  have l0 := (HB0.out.keep g3).lt
  go_upto_region 8 with (go_at_call 39; refine (HC39.out _ g3).mono ?_; rintro e v3 ⟨hG3, b2, d2, rfl, hj2⟩)
  clear m0 m1 m2 l0
  have g4 := g3.t hG3
  have HS1 := Lib.hid (same26_any ZL a1 a2 c1 c2 v3 (hi1.below ((hG1.t hG2).t hG3)) (hi2.below (hG2.t hG3)) hl1)
  have HS2 := Lib.hid (fun (W : World) (hW : G v3 W) => same27_any PL b1 b2 d1 d2 W ((hj1.below hG3).below hW) (hj2.below hW) hl2)
  clear hi1 hi2 hj1 hj2 hG0 hG1 hG2 hG3 g0 g1 g2 g3 HC18 HC38 HC19 HC39
  go_wp2_with (first | (go_at_call 26; refine (HS1.out).mono ?_; rintro e w5 ⟨rfl, hG5⟩) | (go_at_call 27; refine (HS2.out _ hG5).mono ?_; rintro e w6 ⟨rfl, hG6⟩) | (go_at_call 15; refine (HWK.out _).mono ?_; rintro e w7 ⟨rfl, hG7⟩))
  have gz := (((g04.t g4).t hG5).t hG6).t hG7
  first | exact ⟨rfl, gz⟩ | (go_ret; exact ⟨rfl, gz⟩)
end Go.Proofs.YtnkmcoljijmgpaaGreat

