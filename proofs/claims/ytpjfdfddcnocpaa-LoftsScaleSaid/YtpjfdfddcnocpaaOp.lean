import Derived.Test.YtpjfdfddcnocpaaOa
set_option linter.unusedSimpArgs false
set_option linter.unusedVariables false
namespace Go.Proofs.Ytpjfdfddcnocpaa
open Go.RowKit

/-- an opened map lies at block O -/
def Opened (W : World) (O : Nat) (north wrong : Int) (cols lofts : Nat) (E S : Value) (fs : Nat) (rows : Nat → List Sp) : Prop :=
  ∃ slv, Blk W O 91 (oc north cols E lofts S wrong fs slv) ∧ ∀ j, j < lofts → SpotsAt W (slv j) (rows j)
theorem Opened.keep {W W' : World} {O : Nat} {north wrong : Int} {cols lofts : Nat} {E S : Value} {fs : Nat} {rows : Nat → List Sp} (h : Opened W O north wrong cols lofts E S fs rows) (hg : G W W') : Opened W' O north wrong cols lofts E S fs rows := by
  obtain ⟨slv, b, hs⟩ := h
  exact ⟨slv, b.keep hg, fun j hj => (hs j hj).keep (fun g hl _ => hg.block g hl) hg.size⟩
theorem Opened.lt {W : World} {O : Nat} {north wrong : Int} {cols lofts : Nat} {E S : Value} {fs : Nat} {rows : Nat → List Sp} (h : Opened W O north wrong cols lofts E S fs rows) : O < W.heap.size := by
  obtain ⟨slv, b, hs⟩ := h
  exact b.lt

set_option maxHeartbeats 2000000 in
theorem spare_any {O : Nat} {north wrong : Int} {cols lofts : Nat} {E S : Value} {fs : Nat} {rows : Nat → List Sp} (w : World) (h : Opened w O north wrong cols lofts E S fs rows) (hw : 0 ≤ wrong ∧ wrong ≤ 3) (hf : fs ≤ 128) :
    Calls Try.prog 87 #[.pointer (some ⟨O, 0, none⟩)] w fun e w' => e = .returned (.int .i64 (wrong - fs)) ∧ G w w' := by
  obtain ⟨slv, b, _⟩ := h
  have i1 : w.cell? ⟨O, 5, none⟩ = some (.int .i64 wrong) := b.cell 5
  have i2 : w.cell? ⟨O, 6, none⟩ = some (.int .i64 fs) := b.cell 6
  have hW : IntKind.i64.wrap (wrong - fs) = wrong - fs := IntWalk.i64_in _ (by omega)
  clear b
  go_enter Try.func87, Try.ntmps87
  go_wp2
  go_quiet (fail)
  go_wp2
  go_ret
  exact ⟨rfl, (G.rf _).dn _⟩
end Go.Proofs.Ytpjfdfddcnocpaa
