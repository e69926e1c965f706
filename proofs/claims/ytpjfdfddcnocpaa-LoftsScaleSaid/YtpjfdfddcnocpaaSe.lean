import Derived.Test.YtpjfdfddcnocpaaLa
import Derived.Test.YtpjfdfddcnocpaaBy
import Derived.Test.YtpjfdfddcnocpaaOp
set_option linter.unusedSimpArgs false
set_option linter.unusedVariables false
namespace Go.Proofs.Ytpjfdfddcnocpaa
open Go.RowKit Go.Shelf
attribute [local go_sem] Oper.semAt_some wide_fn wide_dep wideR_fn wideR_dep

abbrev At := Nat → Nat × Nat
def pc (f : At) : Array Value := #[.int .i64 (f 0).1, .int .i64 (f 0).2, .int .i64 (f 1).1, .int .i64 (f 1).2, .int .i64 (f 2).1, .int .i64 (f 2).2, .int .i64 (f 3).1, .int .i64 (f 3).2,
  .int .i64 (f 4).1, .int .i64 (f 4).2, .int .i64 (f 5).1, .int .i64 (f 5).2, .int .i64 (f 6).1, .int .i64 (f 6).2, .int .i64 (f 7).1, .int .i64 (f 7).2]
theorem pc_set (f : At) {l : Nat} (h : l < 8) (x y : Nat) : ((pc f).setIfInBounds (l * 2) (.int .i64 x)).setIfInBounds (l * 2 + 1) (.int .i64 y) = pc (upd f l (x, y)) := by
  match l, h with
  | 0, _ => rfl
  | 1, _ => rfl
  | 2, _ => rfl
  | 3, _ => rfl
  | 4, _ => rfl
  | 5, _ => rfl
  | 6, _ => rfl
  | 7, _ => rfl
theorem pc_get (f : At) {l : Nat} (h : l < 8) : (pc f)[l * 2]? = some (.int .i64 (f l).1) ∧ (pc f)[l * 2 + 1]? = some (.int .i64 (f l).2) := by
  match l, h with
  | 0, _ => exact ⟨rfl, rfl⟩
  | 1, _ => exact ⟨rfl, rfl⟩
  | 2, _ => exact ⟨rfl, rfl⟩
  | 3, _ => exact ⟨rfl, rfl⟩
  | 4, _ => exact ⟨rfl, rfl⟩
  | 5, _ => exact ⟨rfl, rfl⟩
  | 6, _ => exact ⟨rfl, rfl⟩
  | 7, _ => exact ⟨rfl, rfl⟩

/-- the places that some lofts have together, in the order in which they come -/
def settleL (rows : Nat → List Sp) : List Nat → At → Int → List At
  | [], f, _ => [f]
  | l :: ls, f, sp => (rows l).flatMap fun s => if (s.more : Int) ≤ sp then settleL rows ls (upd f l (s.x, s.y)) (sp - s.more) else []

/-- every block of cells but those of R lies as it lay -/
structure KC (R : Nat → TypeId → Prop) (W W' : World) : Prop where
  size : W.heap.size ≤ W'.heap.size
  block : ∀ i c t f, W.heap[i]? = some (.cells c t f) → ¬ R i t → W'.heap[i]? = some (.cells c t f)
section
variable {R : Nat → TypeId → Prop} {A B C : World}
theorem KC.rf (R : Nat → TypeId → Prop) (A : World) : KC R A A := ⟨Nat.le_refl _, fun _ _ _ _ h _ => h⟩
theorem KC.t (h : KC R A B) (k : KC R B C) : KC R A C := ⟨Nat.le_trans h.size k.size, fun i c t f hi hn => k.block i c t f (h.block i c t f hi hn) hn⟩
theorem G.kc (h : G A B) : KC R A B := ⟨h.size, fun i _ _ _ hi _ => (h.block i (Array.getElem?_eq_some_iff.1 hi).1).trans hi⟩
theorem KC.blk {g : Nat} {t : TypeId} {cs : Array Value} (h : KC R A B) (b : Blk A g t cs) (hn : ¬ R g t) : Blk B g t cs := h.block _ _ _ _ b hn
/-- .. a store beyond what lay in A -/
theorem KC.s (h : KC R A B) {p : Addr} (hp : A.heap.size ≤ p.block) (v : Value) : KC R A (B.setCell p v) :=
  ⟨by have := h.size; simpa [World.setCell] using this, fun i c t f hi hn => (Below.heap_setCell B p v i (by
    rintro rfl
    have := (Array.getElem?_eq_some_iff.1 hi).1
    omega)).trans (h.block i c t f hi hn)⟩
end
theorem SpotsAt.of {W W' : World} {v : Value} {l : List Sp} (h : SpotsAt W v l) (hk : ∀ g cur, Blk W g 120 cur → Blk W' g 120 cur) : SpotsAt W' v l := by
  obtain ⟨g, cap, rfl, ⟨cur, hg⟩, hc⟩ := h
  have hg' := hk g cur hg
  have c : ∀ o, W'.cell? ⟨g, o, none⟩ = W.cell? ⟨g, o, none⟩ := fun o => (hg'.cell o).trans (hg.cell o).symm
  exact ⟨g, cap, rfl, ⟨cur, hg'⟩, fun i hi => by rw [c, c, c]; exact hc i hi⟩

/-- what settle reads: the opened map at O, the lofts at g -/
def Env (O g : Nat) (gc oc0 : Array Value) (lofts : Nat) (slv : Nat → Value) (rows : Nat → List Sp) (W : World) : Prop :=
  Blk W O 91 oc0 ∧ (∀ j, j < lofts → SpotsAt W (slv j) (rows j)) ∧ Blk W g 3 gc
section
variable {O g : Nat} {gc oc0 : Array Value} {lofts : Nat} {slv : Nat → Value} {rows : Nat → List Sp} {W W' : World}
theorem Env.kc {R : Nat → TypeId → Prop} (h : Env O g gc oc0 lofts slv rows W) (k : KC R W W') (h1 : ∀ i, ¬ R i 91) (h2 : ∀ i, ¬ R i 120) (h3 : ¬ R g 3) : Env O g gc oc0 lofts slv rows W' :=
  ⟨k.blk h.1 (h1 _), fun j hj => (h.2.1 j hj).of (fun g cur hb => k.blk hb (h2 _)), k.blk h.2.2 h3⟩
theorem Env.kt {B : Nat} (h : Env O g gc oc0 lofts slv rows W) (k : Kt (· = 82) B W W') : Env O g gc oc0 lofts slv rows W' :=
  ⟨k.blk h.1 (.inr (by decide)), fun j hj => (h.2.1 j hj).of (fun g cur hb => k.blk hb (.inr (by decide))), k.blk h.2.2 (.inr (by decide))⟩
end

/-- the worlds that the call's own statement reads -/
def S8 (A C : Nat) (ca cc : Array Value) (W' : World) : Prop := Blk W' A 82 ca ∧ Blk W' C 120 cc

set_option maxRecDepth 100000 in
set_option maxHeartbeats 4000000 in
theorem settle_nil (l : Nat) (R : Nat → TypeId → Prop) (O g : Nat) (B0 : Nat) (Full : List At) (J Jx : List At → World → Prop) (hJ : StableT (· = 82) B0 J)
    (hY : ∀ m pre x W1, J pre W1 → pre ++ [x] <+: Full → YieldAt Fence.wide m Try.prog l #[.agg (pc x)] W1 fun e W' => (e = .returned (.bool true) ∧ J (pre ++ [x]) W' ∧ KC R W1 W') ∨ (e = .returned (.bool false) ∧ Jx (pre ++ [x]) W'))
    (n off cap : Nat) (f : At) (sp : Int) (pre : List At) (W : World) (hj : J pre W) (hN : pre ++ [f] <+: Full) :
      CallsIn Fence.wide n Try.prog 91 #[.pointer (some ⟨O, 0, none⟩), .slice (some ⟨g, off, none⟩) 0 cap, .agg (pc f), .int .i64 sp, .func (.yield l) #[] #[]] W fun e W' =>
        (e = .returned (.bool true) ∧ J (pre ++ [f]) W' ∧ KC R W W') ∨ (e = .returned (.bool false) ∧ Jx (pre ++ [f]) W') := by
  have hj1 : J pre (W.alloc (.cells (pc f) 82)) := hJ _ _ _ hj (G.kt ((G.rf W).a _))
  have hk1 : KC R W (W.alloc (.cells (pc f) 82)) := G.kc ((G.rf W).a _)
  obtain ⟨fn, tmps, assign, body, hy, hR⟩ := hY (n - 1) pre f _ hj1 hN
  replace hR := hR.mono (R' := fun e W' => (e = .returned (.bool true) ∧ J (pre ++ [f]) W' ∧ KC R W W') ∨ (e = .returned (.bool false) ∧ Jx (pre ++ [f]) W')) (fun e W' h => h.imp (fun ⟨a, b, c⟩ => ⟨a, b, hk1.t c⟩) id)
  unfold pc at hy hR
  clear hj1 hk1 hY hJ hj
  refine callsIn_of_wp Try.func91 rfl trivial ?_ rfl
  simp only [pc, Try.ntmps91, List.size_toArray, List.length_cons, List.length_nil, Nat.reduceAdd, Nat.reduceSub, Array.replicate_succ, Array.replicate_zero, List.push_toArray, List.append_toArray, List.nil_append, List.cons_append]
  gi_wp2
  refine hR.mono ?_
  rintro e W3 (⟨rfl, hJ3, hk3⟩ | ⟨rfl, hx3⟩)
  · gi_wp2
    go_ret
    exact .inl ⟨rfl, hJ3, hk3⟩
  · gi_wp2
    go_ret
    exact .inr ⟨rfl, hx3⟩
end Go.Proofs.Ytpjfdfddcnocpaa
