import Derived.Test.YtcekdljjmfkacaaGreatKb
import Derived.Shelf.Small.Bits
import Derived.Shelf.Strconv.Itoa0
import Derived.Shelf.Sort.Plain
import Derived.Ground.Names2Prog
import Derived.Shelf.Slices.CompactI
import Derived.Shelf.Slices.SearchI
import Derived.Shelf.Slices.Cells
import Derived.Shelf.Slices.In.SortNone
import Derived.Test.YtcekdljjmfkacaaGreatProg
import Derived.Lib.SlKeysI
set_option linter.unusedSimpArgs false
set_option linter.unusedVariables false
namespace Go.Proofs.YtcekdljjmfkacaaGreat
open Go.RowKit Go.Shelf
attribute [local go_sem] Oper.semAt_some wide_fn wide_dep wideR_fn wideR_dep

abbrev At := Nat → Nat × Nat
def pc (f : At) : Array Value := #[.int .i64 (f 0).1, .int .i64 (f 0).2, .int .i64 (f 1).1, .int .i64 (f 1).2, .int .i64 (f 2).1, .int .i64 (f 2).2, .int .i64 (f 3).1, .int .i64 (f 3).2,
  .int .i64 (f 4).1, .int .i64 (f 4).2, .int .i64 (f 5).1, .int .i64 (f 5).2, .int .i64 (f 6).1, .int .i64 (f 6).2, .int .i64 (f 7).1, .int .i64 (f 7).2]
theorem pc_set (f : At) {l : Nat} (h : l < 8) (x y : Nat) : ((pc f).setIfInBounds (l * 2) (.int .i64 x)).setIfInBounds (l * 2 + 1) (.int .i64 y) = pc (upd f l (x, y)) := by
  match l, h with
  | 0, _ => rfl
  | 1, _ => rfl
  | 2, _ => rfl
  | 3, _ => rfl
  | 4, _ => rfl
  | 5, _ => rfl
  | 6, _ => rfl
  | 7, _ => rfl
theorem pc_get (f : At) {l : Nat} (h : l < 8) : (pc f)[l * 2]? = some (.int .i64 (f l).1) ∧ (pc f)[l * 2 + 1]? = some (.int .i64 (f l).2) := by
  match l, h with
  | 0, _ => exact ⟨rfl, rfl⟩
  | 1, _ => exact ⟨rfl, rfl⟩
  | 2, _ => exact ⟨rfl, rfl⟩
  | 3, _ => exact ⟨rfl, rfl⟩
  | 4, _ => exact ⟨rfl, rfl⟩
  | 5, _ => exact ⟨rfl, rfl⟩
  | 6, _ => exact ⟨rfl, rfl⟩
  | 7, _ => exact ⟨rfl, rfl⟩

/-- the places that some lofts have together, in the order in which they come -/
def settleL (rows : Nat → List Sp) : List Nat → At → Int → List At
  | [], f, _ => [f]
  | l :: ls, f, sp => (rows l).flatMap fun s => if (s.more : Int) ≤ sp then settleL rows ls (upd f l (s.x, s.y)) (sp - s.more) else []

/-- every block of cells but those of R lies as it lay -/
structure KC (R : Nat → TypeId → Prop) (W W' : World) : Prop where
  size : W.heap.size ≤ W'.heap.size
  block : ∀ i c t f, W.heap[i]? = some (.cells c t f) → ¬ R i t → W'.heap[i]? = some (.cells c t f)
section
variable {R : Nat → TypeId → Prop} {A B C : World}
theorem KC.rf (R : Nat → TypeId → Prop) (A : World) : KC R A A := ⟨Nat.le_refl _, fun _ _ _ _ h _ => h⟩
theorem KC.t (h : KC R A B) (k : KC R B C) : KC R A C := ⟨Nat.le_trans h.size k.size, fun i c t f hi hn => k.block i c t f (h.block i c t f hi hn) hn⟩
theorem G.kc (h : G A B) : KC R A B := ⟨h.size, fun i _ _ _ hi _ => (h.block i (Array.getElem?_eq_some_iff.1 hi).1).trans hi⟩
theorem KC.blk {g : Nat} {t : TypeId} {cs : Array Value} (h : KC R A B) (b : Blk A g t cs) (hn : ¬ R g t) : Blk B g t cs := h.block _ _ _ _ b hn
/-- .. a store beyond what lay in A -/
theorem KC.s (h : KC R A B) {p : Addr} (hp : A.heap.size ≤ p.block) (v : Value) : KC R A (B.setCell p v) :=
  ⟨by have := h.size; simpa [World.setCell] using this, fun i c t f hi hn => (Below.heap_setCell B p v i (by
    rintro rfl
    have := (Array.getElem?_eq_some_iff.1 hi).1
    omega)).trans (h.block i c t f hi hn)⟩
end
section
variable {O g : Nat} {gc oc0 : Array Value} {lofts : Nat} {slv : Nat → Value} {rows : Nat → List Sp} {W W' : World}
end

end Go.Proofs.YtcekdljjmfkacaaGreat
set_option linter.unusedSimpArgs false
set_option linter.unusedVariables false
namespace Go.Proofs.YtcekdljjmfkacaaGreat
open Go.RowKit Go.Shelf
attribute [local go_sem] Oper.semAt_some wide_fn wide_dep wideR_fn wideR_dep

section
variable {P : Program} {ops : Array Oper} {md : Region.Mode} {Q : Exit → Act → World → Prop} {S : World → Prop} {z : Nat}
theorem wpAnyY_oneW {i : Nat} {o : Oper} {fuel : Nat} {l : Array Bool} {a : Act} {w : World} (hr : Region.ready md ops l = [i]) (ho : ops[i]? = some o) (hz : (l.setIfInBounds i true).getD z false = true) (hw : Region.wanted o (yielded ops a.tmps) = true)
    (h : ∀ K' : Act → World → Prop, Shut (∀ a w, wpAnyY P md ops Q S z fuel (l.setIfInBounds i true) a w → K' a w) → Oper.wp P o a w K' Q) :
    wpAnyY P md ops Q S z (fuel + 1) l a w := wpAnyY_one hr ho hz (fun K' hK => by rw [if_pos hw]; exact h K' hK)
theorem wpAnyY_oneU {i : Nat} {o : Oper} {fuel : Nat} {l : Array Bool} {a : Act} {w : World} (hr : Region.ready md ops l = [i]) (ho : ops[i]? = some o) (hz : (l.setIfInBounds i true).getD z false = true) (hw : Region.wanted o (yielded ops a.tmps) = false)
    (h : wpAnyY P md ops Q S z fuel (l.setIfInBounds i true) (a.put o.dst undef) w) :
    wpAnyY P md ops Q S z (fuel + 1) l a w := wpAnyY_one hr ho hz (fun K' hK => by rw [if_neg (by rw [hw]; simp)]; exact hK.out _ _ h)
theorem wpAnyY_oneSW {i : Nat} {o : Oper} {fuel : Nat} {l : Array Bool} {a : Act} {w : World} (hr : Region.ready md ops l = [i]) (ho : ops[i]? = some o) (hw : Region.wanted o (yielded ops a.tmps) = true)
    (h : ∀ K' : Act → World → Prop, Shut (∀ a w, S w → (S w → wpAnyY P md ops Q S z fuel (l.setIfInBounds i true) a w) → K' a w) → Oper.wp P o a w K' Q) :
    wpAnyY P md ops Q S z (fuel + 1) l a w := wpAnyY_oneS hr ho (fun K' hK => by rw [if_pos hw]; exact h K' hK)
theorem wpAnyY_oneSU {i : Nat} {o : Oper} {fuel : Nat} {l : Array Bool} {a : Act} {w : World} (hr : Region.ready md ops l = [i]) (ho : ops[i]? = some o) (hw : Region.wanted o (yielded ops a.tmps) = false) (hS : S w)
    (h : wpAnyY P md ops Q S z fuel (l.setIfInBounds i true) (a.put o.dst undef) w) :
    wpAnyY P md ops Q S z (fuel + 1) l a w := wpAnyY_oneS hr ho (fun K' hK => by rw [if_neg (by rw [hw]; simp)]; exact hK.out _ _ hS (fun _ => h))
end

def stepL (rows : Nat → List Sp) (l : Nat) (ls : List Nat) (f : At) (sp : Int) (s : Sp) : List At := if (s.more : Int) ≤ sp then settleL rows ls (upd f l (s.x, s.y)) (sp - s.more) else []
theorem settleL_cons (rows : Nat → List Sp) (l : Nat) (ls : List Nat) (f : At) (sp : Int) : settleL rows (l :: ls) f sp = (rows l).flatMap (stepL rows l ls f sp) := rfl
theorem flatMap_take_succ {α β : Type} [Inhabited α] (k : α → List β) (r : List α) (q : Nat) (h : q < r.length) : (r.take (q + 1)).flatMap k = (r.take q).flatMap k ++ k (r.getD q default) := by
  rw [List.take_succ_eq_append_getElem h, List.flatMap_append]
  simp [h]
theorem flatMap_take_pre {α β : Type} (k : α → List β) (r : List α) (q : Nat) : (r.take q).flatMap k <+: r.flatMap k := by
  refine ⟨(r.drop q).flatMap k, ?_⟩
  rw [← List.flatMap_append, List.take_append_drop]

end Go.Proofs.YtcekdljjmfkacaaGreat
namespace Go.Proofs
open Go.Shelf
open Go.Sort Go.RowKit in
open Go.RowKit Go.Lib Go.Sort in
open Go.RowKit Go.Lib Go.Sort in
open Go.RowKit Go.Lib Go.Sort in
open Go.RowKit Go.Lib in
open Go.RowKit Go.Lib in
open Go.RowKit Go.Lib Go.Sort in
open Go.RowKit Go.Sort in
set_option linter.unusedSimpArgs false
set_option linter.unusedVariables false
namespace Go.Proofs.YtcekdljjmfkacaaGreat
open Go.RowKit Go.Shelf Go.Sort

section
end
end Go.Proofs.YtcekdljjmfkacaaGreat
set_option linter.unusedSimpArgs false
set_option linter.unusedVariables false
namespace Go.Proofs.YtcekdljjmfkacaaGreat
open Go.RowKit Go.Shelf

end Go.Proofs.YtcekdljjmfkacaaGreat
set_option linter.unusedSimpArgs false
set_option linter.unusedVariables false
namespace Go.Proofs.YtcekdljjmfkacaaGreat
open Go.RowKit Go.Shelf
end Go.Proofs.YtcekdljjmfkacaaGreat
set_option linter.unusedSimpArgs false
set_option linter.unusedVariables false
namespace Go.Proofs.YtcekdljjmfkacaaGreat
open Go.RowKit Go.Shelf

end Go.Proofs.YtcekdljjmfkacaaGreat
set_option linter.unusedSimpArgs false
set_option linter.unusedVariables false
namespace Go.Proofs.YtcekdljjmfkacaaGreat
open Go.RowKit Go.Shelf
end Go.Proofs.YtcekdljjmfkacaaGreat
set_option linter.unusedSimpArgs false
set_option linter.unusedVariables false
namespace Go.Proofs.YtcekdljjmfkacaaGreat
open Go.RowKit Go.Shelf

end Go.Proofs.YtcekdljjmfkacaaGreat
