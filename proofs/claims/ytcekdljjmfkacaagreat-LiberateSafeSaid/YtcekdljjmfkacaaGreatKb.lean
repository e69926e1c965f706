import Derived.RangeFuncNested
import Derived.RangeFuncBound
import Derived.RangeFuncCalls
import Derived.RangeFuncLeaves
import Derived.Shelf.Abstract
import Derived.Shelf.RegionOpen
import Derived.WalkKit
import Derived.OwnWalkIn
import Derived.TacticsInMore
import Derived.LoopNIn
import Derived.LoopIn
import Derived.Test.YtcekdljjmfkacaaGreatKa
import Derived.OrdersHeld
import Derived.OrdersIn
import Derived.TacticsIn
import Derived.Deep.RegionHeld
import Derived.Deep.AppendLies
set_option linter.unusedSimpArgs false
set_option linter.unusedVariables false
namespace Go.Proofs.YtcekdljjmfkacaaGreat
open Go.RowKit Go.Shelf
attribute [local go_sem] Oper.semAt_some

def rowP (y n : Nat) : List (Nat × Nat) := (List.range n).map fun x => (x, y)
def allP (cols rows : Nat) : List (Nat × Nat) := (List.range rows).flatMap fun y => rowP y cols
def ptV (p : Nat × Nat) : Value := .agg #[.int .i64 p.1, .int .i64 p.2]

theorem rowP_succ (y n : Nat) : rowP y (n + 1) = rowP y n ++ [(n, y)] := by simp [rowP, List.range_succ]
theorem allP_succ (cols rows : Nat) : allP cols (rows + 1) = allP cols rows ++ rowP rows cols := by simp [allP, List.range_succ, List.flatMap_append]
theorem allP_len (cols rows : Nat) : (allP cols rows).length = rows * cols := by
  induction rows with
  | zero => simp [allP]
  | succ n ih => rw [allP_succ, List.length_append, ih, rowP, List.length_map, List.length_range, Nat.succ_mul]
theorem allP_pre (cols rows y x : Nat) (hy : y < rows) (hx : x ≤ cols) : allP cols y ++ rowP y x <+: allP cols rows := by
  have h1 : allP cols (y + 1) <+: allP cols rows := by
    obtain ⟨k, rfl⟩ : ∃ k, rows = y + 1 + k := ⟨rows - (y + 1), by omega⟩
    clear hy
    induction k with
    | zero => exact List.prefix_rfl
    | succ k ih => exact ih.trans (by rw [show y + 1 + (k + 1) = (y + 1 + k) + 1 from rfl, allP_succ]; exact List.prefix_append _ _)
  refine List.IsPrefix.trans ?_ h1
  rw [allP_succ]
  obtain ⟨k, rfl⟩ : ∃ k, cols = x + k := ⟨cols - x, by omega⟩
  refine (List.prefix_append_right_inj _).2 ?_
  simp [rowP, List.range_add]
/-- what an iterator asks that a round keeps: its own box -/
def KB (B : Nat) (A W : World) : Prop := W.heap[B]? = A.heap[B]?
theorem KB.rf (B : Nat) (A : World) : KB B A A := rfl
theorem KB.t {B : Nat} {A C D : World} (h : KB B A C) (k : KB B C D) : KB B A D := Eq.trans k h
theorem KB.blk {B : Nat} {A W : World} (h : KB B A W) {t : TypeId} {cs : Array Value} (k : Blk A B t cs) : Blk W B t cs := Eq.trans h k
theorem KB.b {B : Nat} {w : World} (hB : B < w.heap.size) (W : World) (l : Nat) (o o' : Obj) (hl : w.heap.size ≤ l) (_ : W.heap[l]? = some o) (_ : o.isCells = false) (_ : o.isWalk = false) : KB B W (W.putObj l o') :=
  World.putObj_heap_other (by omega)
theorem rowP_len (y n : Nat) : (rowP y n).length = n := by simp [rowP]

/-- a place of a map -/
abbrev Pl (cols rows : Nat) := { p : Nat × Nat // p.1 < cols ∧ p.2 < rows }
end Go.Proofs.YtcekdljjmfkacaaGreat
set_option linter.unusedSimpArgs false
set_option linter.unusedVariables false
namespace Go.Proofs.YtcekdljjmfkacaaGreat
open Go.RowKit

/-- the wide fence, in a round or not -/
abbrev WR (l : Option Nat) : Fence := { Fence.wide with round := l }

def noDefer (ops : Array Oper) : Bool := ops.all fun o => match o.op with | .defer _ => false | _ => true
theorem noDefer_spec {ops : Array Oper} (h : noDefer ops = true) {i : Nat} {o : Oper} (ho : ops[i]? = some o) : ∀ c, o.op ≠ .defer c := by
  intro c hc
  obtain ⟨hi, rfl⟩ := Array.getElem?_eq_some_iff.1 ho
  have := (Array.all_eq_true.1 h) i hi
  rw [hc] at this
  cases this

section
variable {P : Program} {ops : Array Oper} {md : Region.Mode} {l : Option Nat} {n : Nat} {Q : Exit → Act → World → Prop}
theorem rowsIn_wide {row : String} {args : Array Value} {w : World} {R : Value → World → Prop} (h : Rows P row args w R) : RowsIn (WR l) n P row args w R :=
  fun c cs _ => let ⟨v, w', r, s⟩ := h c cs; ⟨v, w', r, stepsIn_wide.2 s⟩
theorem Oper.wpIn_of_wp {o : Oper} {a : Act} {w : World} {K : Act → World → Prop} (hd : ∀ c, o.op ≠ .defer c) (h : o.wp P a w K Q) : o.wpIn (WR l) n P a w K Q := by
  refine ⟨fun _ _ => trivial, ?_⟩
  have e : o.semAt (WR l).round a.eval = execOp a.eval o := by
    cases l with
    | none => exact Oper.semAt_none a.eval o
    | some l => exact Oper.semAt_some l a.eval o hd
  rw [e]
  unfold Oper.wp at h
  generalize (execOp a.eval o).run P w = r at *
  cases r with
  | ok x w' =>
    cases x <;> simp only [Oper.upon, Oper.uponIn] at h ⊢ <;> first
      | exact h
      | exact ⟨(fun hh => by cases hh), (callsIn_wide.2 h : CallsIn Fence.wide _ _ _ _ _ _)⟩
      | exact ⟨(fun hh => by cases hh), rowsIn_wide h⟩
      | exact h.elim
  | halt x w' => cases x <;> simp only [Oper.upon, Oper.uponIn] at h ⊢ <;> exact h

theorem wpAnyIn_of_wpAny (hQ : ¬ LetsOut Q) (hd : noDefer ops = true) : ∀ (fuel : Nat) (listed : Array Bool) (a : Act) (w : World), wpAny P md ops Q fuel listed a w → wpAnyIn (WR l) n P md ops Q fuel listed a w
  | 0, _, _, _, h => h
  | fuel + 1, listed, a, w, h => ⟨h.1, fun i hi => by
    have h1 := wpOp_mono (fun a' w' h' => wpAnyIn_of_wpAny hQ hd fuel _ a' w' h') (h.2 i hi)
    unfold wpOp at h1
    unfold wpOpIn
    split
    · rename_i ho; simpa [ho] using h1
    · rename_i o ho
      simp only [ho] at h1
      split
      · rename_i hw
        simp only [hw, if_true] at h1
        rcases h1 with h1 | ⟨_, h1⟩
        · exact Oper.wpIn_of_wp (noDefer_spec hd ho) h1
        · exact (hQ h1).elim
      · rename_i hw
        simp only [hw] at h1
        exact ⟨fun _ _ => trivial, h1⟩⟩

/-- a region that draws its order, in a round: from whatever gives the plain 'wpAny' -/
theorem wpIn_region_round {id : Nat} {a : Act} {w : World} (hm : P.follows .mixedOrders = true) (hQ : ¬ LetsOut Q) (hd : noDefer ops = true)
    (h : wpAny P .any ops Q ops.size (Array.replicate ops.size false) a w.drew) : (Code.region id ops true).wpIn (WR l) n P Q a w :=
  wpIn_region_any hm (wpAnyIn_of_wpAny hQ hd _ _ _ _ h)

/-- .. the held walk -/
theorem wpIn_region_held {id : Nat} {a : Act} {w : World} {S : World → Prop} {l' : List Oper} (N : Nat) (hN : l'.length = N) (hm : P.follows .mixedOrders = true) (hQ : ¬ LetsOut Q) (hd : noDefer l'.toArray = true) (hS : S w.drew)
    (h : S w.drew → wpAnyH P .any l'.toArray Q S N (Array.replicate N false) a w.drew) : (Code.region id l'.toArray true).wpIn (WR l) n P Q a w :=
  wpIn_region_round hm hQ hd (wpAny_of_held _ _ _ _ (by subst hN; simpa using h hS))

/-- .. the quiet walk in the class of the grown worlds -/
theorem wpIn_region_quiet_GR {id : Nat} {a : Act} {W0 : World} {l' : List Oper} (hm : P.follows .mixedOrders = true) (hQ : ¬ LetsOut Q) (hd : noDefer l'.toArray = true) (hB : Region.lexB .any l'.toArray = true)
    (h : wpQuiet P l'.toArray (fun w' => ∃ x : GW W0, w' = x.w) (fun a' => ∀ w', (∃ x : GW W0, w' = x.w) → Q .normal a' w') l' a) : (Code.region id l'.toArray true).wpIn (WR l) n P Q a W0 := by
  refine wpIn_region_round hm hQ hd ?_
  simp only [Region.lexB, Bool.and_eq_true] at hB
  refine wpAny_of_quiet (C := fun w' => ∃ x : GW W0, w' = x.w) (Q := fun a' => ∀ w', (∃ x : GW W0, w' = x.w) → Q .normal a' w') (fun _ w' hw' h => h w' hw') _ _ _ _ ⟨⟨_, (G.rf W0).d⟩, rfl⟩ ?_
  have := wpAnyQ_lex (C := fun w' => ∃ x : GW W0, w' = x.w) (md := .any) hB.1 l' 0 (Array.replicate l'.length false) a (by simp) (by simpa using hB.2) h
  simpa using this
end
end Go.Proofs.YtcekdljjmfkacaaGreat
set_option linter.unusedSimpArgs false
set_option linter.unusedVariables false
namespace Go.Proofs.YtcekdljjmfkacaaGreat
open Go.RowKit Go.Shelf

/-- what lay in W lies in W', but for the blocks of R -/
structure Fr (R : Nat → Prop) (W W' : World) : Prop where
  os : W'.os = W.os
  tape : W'.tape = W.tape
  output : W'.output = W.output
  size : W.heap.size ≤ W'.heap.size
  block : ∀ i, i < W.heap.size → ¬ R i → W'.heap[i]? = W.heap[i]?
section
variable {R : Nat → Prop} {A B C : World}
theorem Fr.rf (R : Nat → Prop) (A : World) : Fr R A A := ⟨rfl, rfl, rfl, Nat.le_refl _, fun _ _ _ => rfl⟩
theorem Fr.t (h : Fr R A B) (k : Fr R B C) : Fr R A C := ⟨k.os.trans h.os, k.tape.trans h.tape, k.output.trans h.output, Nat.le_trans h.size k.size, fun i hi hr => (k.block i (Nat.lt_of_lt_of_le hi h.size) hr).trans (h.block i hi hr)⟩
theorem G.fr (h : G A B) : Fr R A B := ⟨h.os, h.tape, h.output, h.size, fun i hi _ => h.block i hi⟩
theorem Fr.a (h : Fr R A B) (o : Obj) : Fr R A (B.alloc o) := h.t (G.fr ((G.rf B).a o))
theorem Fr.g (h : Fr R A B) (k : G B C) : Fr R A C := h.t k.fr
theorem Fr.d (h : Fr R A B) : Fr R A B.drew := h.t (G.fr ((G.rf B).d))
theorem Fr.s (h : Fr R A B) {p : Addr} (hp : R p.block ∨ A.heap.size ≤ p.block) (v : Value) : Fr R A (B.setCell p v) :=
  ⟨h.os, h.tape, h.output, by have := h.size; simpa [World.setCell] using this, fun i hi hr => (Below.heap_setCell B p v i (by
    rintro rfl
    rcases hp with hp | hp
    · exact hr hp
    · omega)).trans (h.block i hi hr)⟩
theorem Fr.grown (h : Fr R A B) {row : Option Nat} (hg : B.grownBy C row) (hr : ∀ g, row = some g → R g ∨ A.heap.size ≤ g) : Fr R A C :=
  ⟨hg.os.trans h.os, hg.tape.trans h.tape, hg.output.trans h.output, Nat.le_trans h.size hg.size, fun i hi hn => (hg.block i (Nat.lt_of_lt_of_le hi h.size) (fun e => by
    rcases hr i e.symm with h' | h'
    · exact hn h'
    · omega)).trans (h.block i hi hn)⟩
theorem Fr.mono {R' : Nat → Prop} (h : Fr R A B) (hr : ∀ i, i < A.heap.size → R i → R' i) : Fr R' A B := ⟨h.os, h.tape, h.output, h.size, fun i hi hn => h.block i hi (fun hh => hn (hr i hi hh))⟩
theorem Fr.toG (h : Fr R A B) (hr : ∀ i, i < A.heap.size → ¬ R i) : G A B := ⟨h.os, h.tape, h.output, h.size, fun i hi => h.block i hi (hr i hi)⟩
theorem Fr.blk {g : Nat} {t : TypeId} {cs : Array Value} (h : Fr R A B) (k : Blk A g t cs) (hg : ¬ R g) : Blk B g t cs := (h.block g k.lt hg).trans k
theorem Fr.kb {b : Nat} (h : Fr R A B) (hb : b < A.heap.size) (hr : ¬ R b) : KB b A B := h.block b hb hr
theorem Fr.keeps (h : Fr R A B) (hr : ∀ i, R i → i < A.heap.size → ∃ c t f, A.heap[i]? = some (.cells c t f)) (b : Nat) : KeepsFrom b A B :=
  ⟨h.size, fun k o _ hk ho => by
    have hlt := (Array.getElem?_eq_some_iff.1 hk).1
    rw [h.block k hlt (fun hR => by
      obtain ⟨c, t, f, e⟩ := hr k hR hlt
      rw [e] at hk; cases hk; cases ho)]
    exact hk⟩
end

theorem blk_own {β : Type} (g : Nat) (t : TypeId) (f : β → Array Value) : Own (fun s W => Blk W g t (f s)) := fun _ X _ row hs hg hrow =>
  hs.grown hg (fun e' => by obtain ⟨o, ho, hc⟩ := hrow g e'.symm; rw [show X.heap[g]? = _ from hs] at ho; cases ho; cases hc)

variable {F : Fence} {n : Nat} {P : Program}
/-- a range over a function whose one loop variable is boxed: slot tb holds the box's address -/
theorem rangeFunc_box {α : Type} {g : Operand} {tv : Tmp} {assign body : Code} {Q : Exit → Act → World → Prop} {a : Act} {w : World}
    (hro : F.round = none) (h1 : 1 ≤ n) {gf : Nat} {lb : Array Value} (hg : a.eval g = .func (.func gf) #[] lb) (hFg : F.fn gf) (eg : ∀ args w, (callFunc gf args).run P w = .ok (.enter gf args) w)
    {ev : α → Value} {B : Nat} {S Sp : List α → Prop} {N : Nat} {w0 : World} (hseq : SeqStopsK F (n - 1) P gf lb (fun x => #[ev x]) (KB B) S Sp N w0)
    (hB : B < w.heap.size) (hb0 : Below w0.heap.size w0 w)
    (I : List α → World → Prop) (Ix : Code → List α → World → Prop) (hI : OwnFrom w.heap.size I) (hIx : ∀ c, OwnFrom w.heap.size (Ix c)) (hIs : ∀ pre W, I pre W → w.heap.size ≤ W.heap.size) (h0 : I [] w)
    (tb : Tmp) (tt : TypeId) (bx : α → Array Value)
    (hassign : ∀ (l : Nat) (x : α) (W : World) (K : Act → World → Prop), K { tmps := (a.tmps.setIfInBounds tv (ev x)).setIfInBounds tb (.pointer (some ⟨W.heap.size, 0, none⟩)), defers := [] } (W.alloc (.cells (bx x) tt)) →
      assign.wpIn (F.inRound l) (n - 1 - 1) P (Exit.then K (fun _ _ _ => False)) { tmps := a.tmps.setIfInBounds tv (ev x), defers := [] } W)
    (hbody : ∀ (l : Nat) (pre : List α) (x : α) (Bp : Nat) (W : World), w.heap.size ≤ l → (∃ r, W.heap[l]? = some (.loop r)) → I pre W → w.heap.size ≤ Bp → Blk W Bp tt (bx x) → pre.length < N →
      body.wpIn (F.inRound l) (n - 1 - 1) P (ownPostG w.heap.size (KB B) I Ix (pre ++ [x]) W) { tmps := (a.tmps.setIfInBounds tv (ev x)).setIfInBounds tb (.pointer (some ⟨Bp, 0, none⟩)), defers := [] } W)
    (hdone : ∀ (D : Nat) (xs : List α) (W : World), w.heap.size ≤ D → S xs → I xs W → W.heap[D]? = some (.deferred (some [])) → Q .normal { a with defers := { target := .collected D, args := #[] } :: a.defers } W)
    (hstop : ∀ (D : Nat) (c : Code) (pre : List α) (W : World), w.heap.size ≤ D → Sp pre → Ix c pre W → W.heap[D]? = some (.deferred (some [])) → c.wpIn F n P Q { a with defers := { target := .collected D, args := #[] } :: a.defers } W) :
    (Code.rangeFunc g #[tv] assign body).wpIn F n P Q a w := by
  refine wpIn_rangeFunc_ownH hro h1 hg hFg eg hseq (fun h k => KB.t h k) (KB.b hB) hb0 (fun _ => rfl) I Ix hI hIx h0
    (fun x a' W => ∃ Bp, w.heap.size ≤ Bp ∧ Blk W Bp tt (bx x) ∧ a' = { tmps := (a.tmps.setIfInBounds tv (ev x)).setIfInBounds tb (.pointer (some ⟨Bp, 0, none⟩)), defers := [] })
    ?_ ?_ ?_ hdone hstop
  · rintro x a' _ X Y row ⟨Bp, h1, h2, h3⟩ hg' hr
    exact ⟨Bp, h1, blk_own Bp tt (fun _ : Unit => bx x) () X Y row h2 hg' (fun r e => (hr r e).2), h3⟩
  · intro l pre x W K hi hK
    have e : ((#[tv] : Array Tmp).zip #[ev x]).foldl (fun t (p, v) => t.setIfInBounds p v) a.tmps = a.tmps.setIfInBounds tv (ev x) := by simp
    rw [e]
    refine hassign l x W K (hK _ _ ((KeepsOthers.alloc W _).from _) ?_ (hI.alloc _ hi) ⟨W.heap.size, hIs _ _ hi, Blk.new _ _ _, rfl⟩)
    exact Below.heap_alloc W _ B (Nat.lt_of_lt_of_le hB (hIs _ _ hi))
  · rintro l pre x a' W hl hr hi ⟨Bp, h1, h2, rfl⟩ hN
    exact hbody l pre x Bp W hl hr hi h1 h2 hN
end Go.Proofs.YtcekdljjmfkacaaGreat
set_option linter.unusedSimpArgs false
set_option linter.unusedVariables false
namespace Go.Proofs.YtcekdljjmfkacaaGreat
open Go.RowKit

section
variable {P : Program} {ops : Array Oper} {md : Region.Mode} {Q : Exit → Act → World → Prop} {S : World → Prop} {z : Nat}
/-- whatever order is picked; S holds behind every operation but number z, which waits for all that is taken first -/
def wpAnyZ (P : Program) (md : Region.Mode) (ops : Array Oper) (Q : Exit → Act → World → Prop) (S : World → Prop) (z : Nat) : Nat → Array Bool → Act → World → Prop
  | 0, l, a, w => Region.ready md ops l = [] ∧ Q .normal a w
  | fuel + 1, l, a, w => (Region.ready md ops l = [] → Q .normal a w) ∧
    ∀ i ∈ Region.ready md ops l, wpOp P ops Q i (fun a' w' => (i ≠ z → S w') ∧ wpAnyZ P md ops Q S z fuel (l.setIfInBounds i true) a' w') a w

theorem wpAny_of_Z : ∀ (fuel : Nat) (l : Array Bool) (a : Act) (w : World), wpAnyZ P md ops Q S z fuel l a w → wpAny P md ops Q fuel l a w
  | 0, _, _, _, h => h
  | fuel + 1, _, _, _, h => ⟨h.1, fun i hi => wpOp_mono (fun _ _ h' => wpAny_of_Z fuel _ _ _ h'.2) (h.2 i hi)⟩

/-- operation z waits for operation i, at once or by others -/
def waitsT (md : Region.Mode) (ops : Array Oper) : Nat → Nat → Nat → Bool
  | 0, _, _ => false
  | f + 1, z, i =>
    match ops[z]? with
    | some o => o.after.any fun e => Region.binds md e && (e.on == i || waitsT md ops f e.on i)
    | none => false
/-- whoever is listed, those that it waits for are -/
def closedB (md : Region.Mode) (ops : Array Oper) (l : Array Bool) : Bool :=
  (List.range ops.size).all fun k => !l.getD k false || ((ops[k]?).map fun o => o.after.all fun e => !Region.binds md e || l.getD e.on false).getD true
def Closed (md : Region.Mode) (ops : Array Oper) (l : Array Bool) : Prop := ∀ k o, ops[k]? = some o → l.getD k false = true → ∀ e ∈ o.after, Region.binds md e = true → l.getD e.on false = true
theorem closed_of_B {l : Array Bool} (h : closedB md ops l = true) : Closed md ops l := by
  intro k o ho hk e he hb
  have hlt := (Array.getElem?_eq_some_iff.1 ho).1
  have h1 := (List.all_eq_true.1 h) k (List.mem_range.2 hlt)
  rw [hk, ho] at h1
  simp only [Bool.not_true, Bool.false_or, Option.map_some, Option.getD_some, Array.all_eq_true] at h1
  obtain ⟨q, hq, rfl⟩ := Array.getElem_of_mem he
  have h2 := h1 q hq
  rw [hb] at h2
  simpa using h2
theorem Closed.set {l : Array Bool} {j : Nat} (h : Closed md ops l) (hj : j ∈ Region.ready md ops l) : Closed md ops (l.setIfInBounds j true) := by
  intro k o ho hk e he hb
  by_cases hkj : j = k
  · subst hkj
    obtain ⟨_, o', ho', hall⟩ := mem_ready.1 hj
    rw [ho] at ho'
    cases ho'
    exact getD_set_true (hall e he hb)
  · rw [getD_set_ne false hkj] at hk
    exact getD_set_true (h k o ho hk e he hb)
theorem Closed.waits {l : Array Bool} (h : Closed md ops l) : ∀ (f z i : Nat) (o : Oper), ops[z]? = some o → (∀ e ∈ o.after, Region.binds md e = true → l.getD e.on false = true) → waitsT md ops f z i = true → l.getD i false = true
  | 0, _, _, _, _, _, hw => by cases hw
  | f + 1, z, i, o, ho, hall, hw => by
    unfold waitsT at hw
    rw [ho] at hw
    simp only [Array.any_eq_true, Bool.and_eq_true, Bool.or_eq_true, beq_iff_eq] at hw
    obtain ⟨k, hk, hb, hc⟩ := hw
    have h1 := hall _ (Array.getElem_mem hk) hb
    rcases hc with rfl | hc
    · exact h1
    · cases hq : ops[(o.after[k]).on]? with
      | none => unfold waitsT at hc; cases f <;> simp [hq] at hc
      | some o' => exact Closed.waits h f _ i o' hq (h _ o' hq h1) hc

theorem not_ready_of_waits {i : Nat} {l : Array Bool} (hcl : Closed md ops l) (hw : waitsT md ops 40 z i = true) (hi : i ∈ Region.ready md ops l) : z ∉ Region.ready md ops l := by
  intro hz
  obtain ⟨_, o, ho, hall⟩ := mem_ready.1 hz
  obtain ⟨hun, _, _, _⟩ := mem_ready.1 hi
  have h1 := hcl.waits 40 z i o ho hall hw
  cases hq : l[i]? <;> simp [hq] at hun h1
  rw [hun] at h1
  cases h1

theorem wpAnyZ_first {i : Nat} {oi : Oper} {v : Value} (hi : ops[i]? = some oi) (hsel : Region.noSelect ops = true) (hz : i ≠ z) (hw : waitsT md ops 40 z i = true)
    (hQ : ∀ c a w, Q (.panic c) (a.put oi.dst v) w → Q (.panic c) a w) :
    ∀ (fuel : Nat) (l : Array Bool) (a : Act) (w : World), Closed md ops l → (∀ j oj, ops[j]? = some oj → j ≠ i → l.getD j true = false → (∀ e ∈ oj.after, Region.binds md e = true → e.on ≠ i) → oi.apart ops oj = true) →
      i ∈ Region.ready md ops l → YieldsIf P ops S oi v a → S w → wpAnyZ P md ops Q S z fuel (l.setIfInBounds i true) (a.put oi.dst v) w → wpAnyZ P md ops Q S z (fuel + 1) l a w
  | fuel, l, a, w, hcl, hfree, hr, hy, hS, H => by
    refine ⟨fun h => absurd (h ▸ hr) (by simp), fun j hj => ?_⟩
    by_cases hji : j = i
    · subst hji
      exact hy.wpOp hi hS ⟨fun _ => hS, H⟩
    have hj2 := ready_mono hj hji
    cases fuel with
    | zero => rw [H.1] at hj2; cases hj2
    | succ fuel =>
      have hjz : j ≠ z := fun e => not_ready_of_waits hcl hw hr (e ▸ hj)
      obtain ⟨hjun, oj, hoj, hall⟩ := mem_ready.1 hj
      have hno : ∀ e ∈ oj.after, Region.binds md e = true → e.on ≠ i := fun e he hb heq => by
        have h1 := hall e he hb
        have h0 := (mem_ready.1 hr).1
        rw [heq] at h1
        cases hq : l[i]? <;> simp [hq] at h0 h1
        rw [h0] at h1
        cases h1
      have h2 := wpOp_putIf hoj (hfree j oj hoj hji hjun hno) (fun cs b => Region.noSelect_spec hsel i oi cs b hi) (fun cs b => Region.noSelect_spec hsel j oj cs b hoj) hQ hy (H.2 j hj2)
      refine wpOp_mono (fun a' w' h3 => ⟨fun _ => h3.2.1 hjz, ?_⟩) h2
      refine wpAnyZ_first hi hsel hz hw hQ fuel _ a' w' (hcl.set hj) (fun k ok hk hki hun hn => hfree k ok hk hki ?_ hn) (ready_mono hr (Ne.symm hji)) h3.1 (h3.2.1 hjz) ?_
      · by_cases hjk : j = k
        · exact hjk ▸ hjun
        · rwa [getD_set_ne true hjk] at hun
      · rw [Array.setIfInBounds_comm _ _ hji]
        exact h3.2.2

theorem wpAnyZ_take {i : Nat} {oi : Oper} {v : Value} {fuel : Nat} {l : Array Bool} {a : Act} {w : World} (hi : ops[i]? = some oi) (hs : Region.noSelect ops = true) (hf : Region.free md ops l i = true)
    (hr : (Region.ready md ops l).contains i = true) (hw : (decide (i ≠ z) && waitsT md ops 40 z i && closedB md ops l) = true) (hQ : ∀ c a w, Q (.panic c) (a.put oi.dst v) w → Q (.panic c) a w) (hy : YieldsIf P ops S oi v a) (hS : S w)
    (h : wpAnyZ P md ops Q S z fuel (l.setIfInBounds i true) (a.put oi.dst v) w) : wpAnyZ P md ops Q S z (fuel + 1) l a w := by
  simp only [Bool.and_eq_true, decide_eq_true_eq] at hw
  exact wpAnyZ_first hi hs hw.1.1 hw.1.2 hQ fuel l a w (closed_of_B hw.2) (Region.free_spec hi hf) (by simpa using hr) hy hS h

/-- one operation alone may come up -/
theorem wpAnyZ_one {i : Nat} {o : Oper} {fuel : Nat} {l : Array Bool} {a : Act} {w : World} (hr : Region.ready md ops l = [i]) (ho : ops[i]? = some o)
    (h : ∀ K' : Act → World → Prop, Shut (∀ a w, (i ≠ z → S w) → ((i ≠ z → S w) → wpAnyZ P md ops Q S z fuel (l.setIfInBounds i true) a w) → K' a w) → if Region.wanted o (yielded ops a.tmps) = true then Oper.wp P o a w K' Q else K' (a.put o.dst undef) w) :
    wpAnyZ P md ops Q S z (fuel + 1) l a w := by
  refine ⟨fun h0 => (by rw [hr] at h0; cases h0), fun j hj => ?_⟩
  rw [hr] at hj
  obtain rfl : j = i := by simpa using hj
  exact wpOp_step ho (fun K' hK => h K' (fun a w hS hW => hK a w ⟨hS, hW hS⟩))

theorem wpAnyZ_two {i k : Nat} {o o' : Oper} {fuel : Nat} {l : Array Bool} {a : Act} {w : World} (hr : Region.ready md ops l = [i, k]) (ho : ops[i]? = some o) (ho' : ops[k]? = some o')
    (h : ∀ K' : Act → World → Prop, Shut (∀ a w, (i ≠ z → S w) → ((i ≠ z → S w) → wpAnyZ P md ops Q S z fuel (l.setIfInBounds i true) a w) → K' a w) → if Region.wanted o (yielded ops a.tmps) = true then Oper.wp P o a w K' Q else K' (a.put o.dst undef) w)
    (h' : ∀ K' : Act → World → Prop, Shut (∀ a w, (k ≠ z → S w) → ((k ≠ z → S w) → wpAnyZ P md ops Q S z fuel (l.setIfInBounds k true) a w) → K' a w) → if Region.wanted o' (yielded ops a.tmps) = true then Oper.wp P o' a w K' Q else K' (a.put o'.dst undef) w) :
    wpAnyZ P md ops Q S z (fuel + 1) l a w := by
  refine ⟨fun h0 => (by rw [hr] at h0; cases h0), fun j hj => ?_⟩
  rw [hr] at hj
  simp only [List.mem_cons, List.not_mem_nil, or_false] at hj
  rcases hj with rfl | rfl
  · exact wpOp_step ho (fun K' hK => h K' (fun a w hS hW => hK a w ⟨hS, hW hS⟩))
  · exact wpOp_step ho' (fun K' hK => h' K' (fun a w hS hW => hK a w ⟨hS, hW hS⟩))

/-- Q, but False at a panic -/
def NoP (Q : Exit → Act → World → Prop) : Exit → Act → World → Prop
  | .panic _, _, _ => False
  | e, a, w => Q e a w
theorem NoP.imp : ∀ (e : Exit) (a : Act) (w : World), NoP Q e a w → Q e a w := fun e a w h => by
  cases e <;> first | exact h | exact (h : False).elim
theorem NoP.lets (h : ¬ LetsOut Q) : ¬ LetsOut (NoP Q) := fun ⟨a, w, q⟩ => h ⟨a, w, q⟩
theorem wpAnyZ_done {l : Array Bool} {a : Act} {w : World} (hr : Region.ready md ops l = []) (h : Q .normal a w) : ∀ fuel, wpAnyZ P md ops (NoP Q) S z fuel l a w
  | 0 => ⟨hr, h⟩
  | _ + 1 => ⟨fun _ => h, by rw [hr]; simp⟩
end

theorem wpIn_region_Z {P : Program} {Q : Exit → Act → World → Prop} {l : Option Nat} {n : Nat} {id : Nat} {a : Act} {w : World} {S : World → Prop} {l' : List Oper} (z N : Nat) (hN : l'.length = N) (hm : P.follows .mixedOrders = true) (hQ : ¬ LetsOut Q) (hd : noDefer l'.toArray = true) (hS : S w.drew)
    (h : S w.drew → wpAnyZ P .any l'.toArray (NoP Q) S z N (Array.replicate N false) a w.drew) : (Code.region id l'.toArray true).wpIn (WR l) n P Q a w :=
  Code.wpIn_mono NoP.imp (wpIn_region_round hm (NoP.lets hQ) hd (wpAny_of_Z _ _ _ _ (by subst hN; simpa using h hS)))
theorem wp_region_Z {P : Program} {Q : Exit → Act → World → Prop} {id : Nat} {a : Act} {w : World} {S : World → Prop} {l' : List Oper} (z N : Nat) (hN : l'.length = N) (hm : P.follows .mixedOrders = true) (hS : S w.drew)
    (h : S w.drew → wpAnyZ P .any l'.toArray (NoP Q) S z N (Array.replicate N false) a w.drew) : (Code.region id l'.toArray true).wp P Q a w :=
  Code.wp_mono NoP.imp (wp_region_any hm (wpAny_of_Z _ _ _ _ (by subst hN; simpa using h hS)))
end Go.Proofs.YtcekdljjmfkacaaGreat
set_option linter.unusedSimpArgs false
set_option linter.unusedVariables false
namespace Go.Proofs.YtcekdljjmfkacaaGreat
open Go.RowKit

section
variable {P : Program} {ops : Array Oper} {md : Region.Mode} {Q : Exit → Act → World → Prop} {S : World → Prop} {z : Nat}
/-- whatever order is picked; S holds as long as operation z is not listed -/
def wpAnyY (P : Program) (md : Region.Mode) (ops : Array Oper) (Q : Exit → Act → World → Prop) (S : World → Prop) (z : Nat) : Nat → Array Bool → Act → World → Prop
  | 0, l, a, w => Region.ready md ops l = [] ∧ Q .normal a w
  | fuel + 1, l, a, w => (Region.ready md ops l = [] → Q .normal a w) ∧
    ∀ i ∈ Region.ready md ops l, wpOp P ops Q i (fun a' w' => ((l.setIfInBounds i true).getD z false = false → S w') ∧ wpAnyY P md ops Q S z fuel (l.setIfInBounds i true) a' w') a w

theorem wpAny_of_Y : ∀ (fuel : Nat) (l : Array Bool) (a : Act) (w : World), wpAnyY P md ops Q S z fuel l a w → wpAny P md ops Q fuel l a w
  | 0, _, _, _, h => h
  | fuel + 1, _, _, _, h => ⟨h.1, fun i hi => wpOp_mono (fun _ _ h' => wpAny_of_Y fuel _ _ _ h'.2) (h.2 i hi)⟩

theorem wpAnyY_first {i : Nat} {oi : Oper} {v : Value} (hi : ops[i]? = some oi) (hsel : Region.noSelect ops = true) (hz : i ≠ z) (hw : waitsT md ops 40 z i = true)
    (hQ : ∀ c a w, Q (.panic c) (a.put oi.dst v) w → Q (.panic c) a w) :
    ∀ (fuel : Nat) (l : Array Bool) (a : Act) (w : World), Closed md ops l → l.getD z false = false → (∀ j oj, ops[j]? = some oj → j ≠ i → l.getD j true = false → (∀ e ∈ oj.after, Region.binds md e = true → e.on ≠ i) → oi.apart ops oj = true) →
      i ∈ Region.ready md ops l → YieldsIf P ops S oi v a → S w → wpAnyY P md ops Q S z fuel (l.setIfInBounds i true) (a.put oi.dst v) w → wpAnyY P md ops Q S z (fuel + 1) l a w
  | fuel, l, a, w, hcl, hlz, hfree, hr, hy, hS, H => by
    refine ⟨fun h => absurd (h ▸ hr) (by simp), fun j hj => ?_⟩
    by_cases hji : j = i
    · subst hji
      exact hy.wpOp hi hS ⟨fun _ => hS, H⟩
    have hj2 := ready_mono hj hji
    cases fuel with
    | zero => rw [H.1] at hj2; cases hj2
    | succ fuel =>
      have hjz : j ≠ z := fun e => not_ready_of_waits hcl hw hr (e ▸ hj)
      have hlz' : (l.setIfInBounds j true).getD z false = false := by rw [getD_set_ne false hjz]; exact hlz
      obtain ⟨hjun, oj, hoj, hall⟩ := mem_ready.1 hj
      have hno : ∀ e ∈ oj.after, Region.binds md e = true → e.on ≠ i := fun e he hb heq => by
        have h1 := hall e he hb
        have h0 := (mem_ready.1 hr).1
        rw [heq] at h1
        cases hq : l[i]? <;> simp [hq] at h0 h1
        rw [h0] at h1
        cases h1
      have h2 := wpOp_putIf hoj (hfree j oj hoj hji hjun hno) (fun cs b => Region.noSelect_spec hsel i oi cs b hi) (fun cs b => Region.noSelect_spec hsel j oj cs b hoj) hQ hy (H.2 j hj2)
      have hlz2 : ((l.setIfInBounds i true).setIfInBounds j true).getD z false = false := by rw [getD_set_ne false hjz, getD_set_ne false hz]; exact hlz
      refine wpOp_mono (fun a' w' h3 => ⟨fun _ => h3.2.1 hlz2, ?_⟩) h2
      refine wpAnyY_first hi hsel hz hw hQ fuel _ a' w' (hcl.set hj) hlz' (fun k ok hk hki hun hn => hfree k ok hk hki ?_ hn) (ready_mono hr (Ne.symm hji)) h3.1 (h3.2.1 hlz2) ?_
      · by_cases hjk : j = k
        · exact hjk ▸ hjun
        · rwa [getD_set_ne true hjk] at hun
      · rw [Array.setIfInBounds_comm _ _ hji]
        exact h3.2.2

/-- .. at once, or by others: asked in this order (the kernel is quick at the first) -/
def waitsD (md : Region.Mode) (ops : Array Oper) (z i : Nat) : Bool :=
  (match ops[z]? with | some o => o.after.any fun e => Region.binds md e && e.on == i | none => false) || waitsT md ops 40 z i
theorem waitsD_T {i : Nat} (h : waitsD md ops z i = true) : waitsT md ops 40 z i = true := by
  unfold waitsD at h
  rw [Bool.or_eq_true] at h
  rcases h with h | h
  · unfold waitsT
    cases ho : ops[z]? with
    | none => rw [ho] at h; cases h
    | some o =>
      rw [ho] at h
      simp only [Array.any_eq_true, Bool.and_eq_true, beq_iff_eq] at h ⊢
      obtain ⟨k, hk, hb, he⟩ := h
      exact ⟨k, hk, hb, by simp [he]⟩
  · exact h
theorem wpAnyY_take {i : Nat} {oi : Oper} {v : Value} {fuel : Nat} {l : Array Bool} {a : Act} {w : World} (hi : ops[i]? = some oi) (hs : Region.noSelect ops = true) (hf : Region.free md ops l i = true)
    (hr : (Region.ready md ops l).contains i = true) (hw : (decide (i ≠ z) && (waitsD md ops z i && (closedB md ops l && !l.getD z false))) = true) (hQ : ∀ c a w, Q (.panic c) (a.put oi.dst v) w → Q (.panic c) a w) (hy : YieldsIf P ops S oi v a) (hS : S w)
    (h : wpAnyY P md ops Q S z fuel (l.setIfInBounds i true) (a.put oi.dst v) w) : wpAnyY P md ops Q S z (fuel + 1) l a w := by
  simp only [Bool.and_eq_true, decide_eq_true_eq, Bool.not_eq_true'] at hw
  exact wpAnyY_first hi hs hw.1 (waitsD_T hw.2.1) hQ fuel l a w (closed_of_B hw.2.2.1) hw.2.2.2 (Region.free_spec hi hf) (by simpa using hr) hy hS h

/-- one operation alone may come up, and z is listed or is this one -/
theorem wpAnyY_one {i : Nat} {o : Oper} {fuel : Nat} {l : Array Bool} {a : Act} {w : World} (hr : Region.ready md ops l = [i]) (ho : ops[i]? = some o) (hz : (l.setIfInBounds i true).getD z false = true)
    (h : ∀ K' : Act → World → Prop, Shut (∀ a w, wpAnyY P md ops Q S z fuel (l.setIfInBounds i true) a w → K' a w) → if Region.wanted o (yielded ops a.tmps) = true then Oper.wp P o a w K' Q else K' (a.put o.dst undef) w) :
    wpAnyY P md ops Q S z (fuel + 1) l a w := by
  refine ⟨fun h0 => (by rw [hr] at h0; cases h0), fun j hj => ?_⟩
  rw [hr] at hj
  obtain rfl : j = i := by simpa using hj
  exact wpOp_step ho (fun K' hK => h K' (fun a w hW => hK a w ⟨fun e => (by rw [hz] at e; cases e), hW⟩))
/-- .. where S is told -/
theorem wpAnyY_oneS {i : Nat} {o : Oper} {fuel : Nat} {l : Array Bool} {a : Act} {w : World} (hr : Region.ready md ops l = [i]) (ho : ops[i]? = some o)
    (h : ∀ K' : Act → World → Prop, Shut (∀ a w, S w → (S w → wpAnyY P md ops Q S z fuel (l.setIfInBounds i true) a w) → K' a w) → if Region.wanted o (yielded ops a.tmps) = true then Oper.wp P o a w K' Q else K' (a.put o.dst undef) w) :
    wpAnyY P md ops Q S z (fuel + 1) l a w := by
  refine ⟨fun h0 => (by rw [hr] at h0; cases h0), fun j hj => ?_⟩
  rw [hr] at hj
  obtain rfl : j = i := by simpa using hj
  exact wpOp_step ho (fun K' hK => h K' (fun a w hS hW => hK a w ⟨fun _ => hS, hW hS⟩))
end
theorem wpAnyY_done {P : Program} {ops : Array Oper} {md : Region.Mode} {Q : Exit → Act → World → Prop} {S : World → Prop} {z : Nat} {l : Array Bool} {a : Act} {w : World} (hr : Region.ready md ops l = []) (h : Q .normal a w) : ∀ fuel, wpAnyY P md ops (NoP Q) S z fuel l a w
  | 0 => ⟨hr, h⟩
  | _ + 1 => ⟨fun _ => h, by rw [hr]; simp⟩
theorem wpIn_region_Y {P : Program} {Q : Exit → Act → World → Prop} {l : Option Nat} {n : Nat} {id : Nat} {a : Act} {w : World} {S : World → Prop} {l' : List Oper} (z N : Nat) (hN : l'.length = N) (hm : P.follows .mixedOrders = true) (hQ : ¬ LetsOut Q) (hd : noDefer l'.toArray = true) (hS : S w.drew)
    (h : S w.drew → wpAnyY P .any l'.toArray (NoP Q) S z N (Array.replicate N false) a w.drew) : (Code.region id l'.toArray true).wpIn (WR l) n P Q a w :=
  Code.wpIn_mono NoP.imp (wpIn_region_round hm (NoP.lets hQ) hd (wpAny_of_Y _ _ _ _ (by subst hN; simpa using h hS)))
theorem wp_region_Y {P : Program} {Q : Exit → Act → World → Prop} {id : Nat} {a : Act} {w : World} {S : World → Prop} {l' : List Oper} (z N : Nat) (hN : l'.length = N) (hm : P.follows .mixedOrders = true) (hS : S w.drew)
    (h : S w.drew → wpAnyY P .any l'.toArray (NoP Q) S z N (Array.replicate N false) a w.drew) : (Code.region id l'.toArray true).wp P Q a w :=
  Code.wp_mono NoP.imp (wp_region_any hm (wpAny_of_Y _ _ _ _ (by subst hN; simpa using h hS)))
end Go.Proofs.YtcekdljjmfkacaaGreat
set_option linter.unusedSimpArgs false
set_option linter.unusedVariables false
namespace Go.Proofs.YtcekdljjmfkacaaGreat
open Go.RowKit Go.Shelf
attribute [local go_sem] Oper.semAt_some

theorem wide_fn (f : Nat) : Fence.wide.fn f = True := rfl
theorem wide_dep : Fence.wide.depth = none := rfl
theorem wideR_fn (l f : Nat) : (Fence.wide.inRound l).fn f = True := rfl
theorem wideR_dep (l : Nat) : (Fence.wide.inRound l).depth = none := rfl
attribute [local go_sem] wide_fn wide_dep wideR_fn wideR_dep ptV

structure Sp where
  x : Nat
  y : Nat
  more : Nat
instance : Inhabited Sp := ⟨⟨0, 0, 0⟩⟩
def spotCells (l : List Sp) : List Value := l.flatMap fun s => [.int .i64 s.x, .int .i64 s.y, .int .i64 s.more]
def oc (north cols : Int) (E : Value) (lofts : Int) (S : Value) (wrong : Int) (sum : Nat) (sl : Nat → Value) : Array Value :=
  #[.int .i64 north, .int .i64 cols, E, .int .i64 lofts, S, .int .i64 wrong, .int .i64 sum, sl 0, sl 1, sl 2, sl 3, sl 4, sl 5, sl 6, sl 7]
def upd {α : Type} (f : Nat → α) (k : Nat) (v : α) : Nat → α := fun j => if j = k then v else f j

theorem oc_get {north cols lofts wrong : Int} {E S : Value} {sum : Nat} {sl : Nat → Value} {k : Nat} (hk : k < 8) : (oc north cols E lofts S wrong sum sl)[7 + k]? = some (sl k) := by
  match k, hk with
  | 0, _ => rfl
  | 1, _ => rfl
  | 2, _ => rfl
  | 3, _ => rfl
  | 4, _ => rfl
  | 5, _ => rfl
  | 6, _ => rfl
  | 7, _ => rfl
theorem oc_set {north cols lofts wrong : Int} {E S : Value} {sum : Nat} {sl : Nat → Value} {k : Nat} (hk : k < 8) (v : Value) : (oc north cols E lofts S wrong sum sl).setIfInBounds (7 + k) v = oc north cols E lofts S wrong sum (upd sl k v) := by
  match k, hk with
  | 0, _ => rfl
  | 1, _ => rfl
  | 2, _ => rfl
  | 3, _ => rfl
  | 4, _ => rfl
  | 5, _ => rfl
  | 6, _ => rfl
  | 7, _ => rfl
theorem oc_sum {north cols lofts wrong : Int} {E S : Value} {sum : Nat} {sl : Nat → Value} (v : Nat) : (oc north cols E lofts S wrong sum sl).setIfInBounds 6 (.int .i64 v) = oc north cols E lofts S wrong v sl := rfl

section
variable (north : Int) (cols : Nat) (east : List Int) (svs : List Sv)
def cost (loft : Nat) (p : Nat × Nat) : Nat := wrongN north east svs loft p.1 p.2
def minC (init : Nat) (l : List Nat) : Nat := l.foldl min init
def lowC (loft : Nat) (pl : List (Nat × Nat)) : Nat := minC svs.length (pl.map (cost north east svs loft))
def rawSpots (loft : Nat) (pl : List (Nat × Nat)) : List Sp := pl.map fun p => ⟨p.1, p.2, cost north east svs loft p⟩
def spotsOf (loft : Nat) : List Sp := (allP cols east.length).map fun p => ⟨p.1, p.2, cost north east svs loft p - lowC north east svs loft (allP cols east.length)⟩
def fewSum (k : Nat) : Nat := ((List.range k).map fun j => lowC north east svs j (allP cols east.length)).sum
end

theorem lowC_snoc (north : Int) (east : List Int) (svs : List Sv) (loft : Nat) (l : List (Nat × Nat)) (p : Nat × Nat) : lowC north east svs loft (l ++ [p]) = min (lowC north east svs loft l) (cost north east svs loft p) := by
  simp [lowC, minC, List.foldl_append]

theorem foldl_min_le (l : List Nat) : ∀ (a : Nat), l.foldl min a ≤ a ∧ ∀ x ∈ l, l.foldl min a ≤ x := by
  induction l with
  | nil => intro a; simp
  | cons b l ih =>
    intro a
    have h := ih (min a b)
    simp only [List.foldl_cons]
    refine ⟨by have := h.1; omega, fun x hx => ?_⟩
    rcases List.mem_cons.1 hx with rfl | hx
    · have := h.1; omega
    · exact h.2 x hx
theorem lowC_le (north : Int) (east : List Int) (svs : List Sv) (k : Nat) (pl : List (Nat × Nat)) (hl2 : svs.length ≤ 16) : lowC north east svs k pl ≤ 16 := by
  have := (foldl_min_le (pl.map (cost north east svs k)) svs.length).1
  unfold lowC minC
  omega
theorem fewSum_le (north : Int) (cols : Nat) (east : List Int) (svs : List Sv) (k : Nat) (hl2 : svs.length ≤ 16) : fewSum north cols east svs k ≤ k * 16 := by
  induction k with
  | zero => simp [fewSum]
  | succ k ih =>
    have e : fewSum north cols east svs (k + 1) = fewSum north cols east svs k + lowC north east svs k (allP cols east.length) := by simp [fewSum, List.range_succ]
    have := lowC_le north east svs k (allP cols east.length) hl2
    omega
def subM (m : Nat) (s : Sp) : Sp := ⟨s.x, s.y, s.more - m⟩
theorem wrongN_le (north : Int) (east : List Int) (svs : List Sv) (loft x y : Int) : wrongN north east svs loft x y ≤ svs.length := List.length_filter_le _ _
theorem rawSpots_low (north : Int) (cols lofts : Nat) (east : List Int) (svs : List Sv) (k : Nat) (hl2 : svs.length ≤ 16) (pl : List (Nat × Nat)) : ∀ s ∈ rawSpots north east svs k pl, lowC north east svs k pl ≤ s.more ∧ s.more ≤ 16 := by
  intro s hs
  simp only [rawSpots, List.mem_map] at hs
  obtain ⟨p, hp, rfl⟩ := hs
  refine ⟨(foldl_min_le _ _).2 _ (List.mem_map.2 ⟨p, hp, rfl⟩), ?_⟩
  have := wrongN_le north east svs k p.1 p.2
  show wrongN north east svs k p.1 p.2 ≤ 16
  omega

theorem Fr.t2 {R R' : Nat → Prop} {A B C : World} (h : Fr R A B) (k : Fr R' B C) (hr : ∀ i, i < A.heap.size → R' i → R i) : Fr R A C :=
  ⟨k.os.trans h.os, k.tape.trans h.tape, k.output.trans h.output, Nat.le_trans h.size k.size, fun i hi hn => (k.block i (Nat.lt_of_lt_of_le hi h.size) (fun h' => hn (hr i hi h'))).trans (h.block i hi hn)⟩
def mixL (raw : List Sp) (m q : Nat) : List Sp := (raw.take q).map (subM m) ++ raw.drop q
theorem spotCells_app (A B : List Sp) : spotCells (A ++ B) = spotCells A ++ spotCells B := by simp [spotCells]
theorem spotCells_len (A : List Sp) : (spotCells A).length = A.length * 3 := by
  induction A with
  | nil => rfl
  | cons a A ih => simp only [spotCells, List.flatMap_cons, List.length_append, List.length_cons, List.length_nil] at ih ⊢; omega
theorem mixL_at (raw : List Sp) (m q : Nat) (h : q < raw.length) :
    (spotCells (mixL raw m q))[q * 3 + 2]? = some (.int .i64 (raw.getD q default).more) ∧
    (spotCells (mixL raw m q)).set (q * 3 + 2) (.int .i64 (((raw.getD q default).more - m : Nat) : Int)) = spotCells (mixL raw m (q + 1)) := by
  have e1 : raw.drop q = raw.getD q default :: raw.drop (q + 1) := by rw [List.drop_eq_getElem_cons h]; simp [h]
  have e2 : mixL raw m (q + 1) = (raw.take q).map (subM m) ++ subM m (raw.getD q default) :: raw.drop (q + 1) := by
    unfold mixL
    rw [List.take_succ_eq_append_getElem h, List.map_append, List.append_assoc]
    have e : raw.getD q default = raw[q] := by simp [h]
    rw [e]
    rfl
  have e3 : mixL raw m q = (raw.take q).map (subM m) ++ raw.getD q default :: raw.drop (q + 1) := by unfold mixL; rw [e1]
  have hl : (spotCells ((raw.take q).map (subM m))).length = q * 3 := by rw [spotCells_len, List.length_map, List.length_take]; omega
  have c : ∀ (s : Sp) (B : List Sp), spotCells (s :: B) = .int .i64 s.x :: .int .i64 s.y :: .int .i64 s.more :: spotCells B := fun s B => by simp [spotCells]
  rw [e2, e3, spotCells_app, spotCells_app, c, c]
  constructor
  · rw [List.getElem?_append_right (by omega), hl, show q * 3 + 2 - q * 3 = 2 by omega]; rfl
  · rw [List.set_append_right _ _ (by omega), hl, show q * 3 + 2 - q * 3 = 2 by omega]; rfl

theorem spotCells_at (l : List Sp) (i : Nat) (h : i < l.length) : (spotCells l)[i * 3]? = some (.int .i64 (l.getD i default).x) ∧ (spotCells l)[i * 3 + 1]? = some (.int .i64 (l.getD i default).y) ∧ (spotCells l)[i * 3 + 2]? = some (.int .i64 (l.getD i default).more) := by
  have e : l = l.take i ++ l.getD i default :: l.drop (i + 1) := by
    have e1 : l.drop i = l.getD i default :: l.drop (i + 1) := by rw [List.drop_eq_getElem_cons h]; simp [h]
    rw [← e1, List.take_append_drop]
  have c : ∀ (s : Sp) (B : List Sp), spotCells (s :: B) = .int .i64 s.x :: .int .i64 s.y :: .int .i64 s.more :: spotCells B := fun s B => by simp [spotCells]
  have hl : (spotCells (l.take i)).length = i * 3 := by rw [spotCells_len, List.length_take]; omega
  have e3 : spotCells l = spotCells (l.take i) ++ .int .i64 (l.getD i default).x :: .int .i64 (l.getD i default).y :: .int .i64 (l.getD i default).more :: spotCells (l.drop (i + 1)) := by
    rw [← c, ← spotCells_app, ← e]
  rw [e3]
  generalize l.getD i default = s
  refine ⟨?_, ?_, ?_⟩
  · rw [List.getElem?_append_right (by omega), hl, show i * 3 - i * 3 = 0 by omega]; rfl
  · rw [List.getElem?_append_right (by omega), hl, show i * 3 + 1 - i * 3 = 1 by omega]; rfl
  · rw [List.getElem?_append_right (by omega), hl, show i * 3 + 2 - i * 3 = 2 by omega]; rfl
/-- the mark of a range over a function among the deferred calls -/
abbrev markD (D : Nat) : Deferred := { target := .collected D, args := #[] }
def Marks (B : Nat) (Ds : List Nat) (w : World) : Prop := Ds.Nodup ∧ ∀ D, D ∈ Ds → B ≤ D ∧ w.heap[D]? = some (.deferred (some []))
theorem Marks.nil (B : Nat) (w : World) : Marks B [] w := ⟨List.nodup_nil, fun _ h => by cases h⟩

theorem leaves_marks {F : Fence} {n : Nat} {P : Program} {fn : Func} {tmps : Array Value} {R : Ending → World → Prop} {B : Nat} : ∀ (Ds : List Nat) (w : World), Marks B Ds w →
    (∀ w', Fr (fun i => i ∈ Ds) w w' → LeavesInM F n P fn tmps R [] .returning w') → LeavesInM F n P fn tmps R (Ds.map markD) .returning w
  | [], w, _, h => h w (Fr.rf _ _)
  | D :: Ds, w, hm, h => by
    have hD := hm.2 D List.mem_cons_self
    have hnd := List.nodup_cons.1 hm.1
    refine ⟨by simp, .inl ⟨D, _, rfl, run_takeDeferred hD.2, ?_⟩⟩
    have hf : Fr (fun i => i = D) w (w.putObj D (.deferred none)) := ⟨rfl, rfl, rfl, by simp [World.putObj], fun i _ hn => World.putObj_heap_other hn⟩
    refine leaves_marks (B := B) Ds _ ⟨hnd.2, fun D' h' => ⟨(hm.2 D' (List.mem_cons_of_mem _ h')).1, (hf.block D' (Array.getElem?_eq_some_iff.1 (hm.2 D' (List.mem_cons_of_mem _ h')).2).1 (fun e => hnd.1 (e ▸ h'))).trans (hm.2 D' (List.mem_cons_of_mem _ h')).2⟩⟩ (fun w' hw' => h w' ?_)
    exact (hf.mono (fun i _ e => by rw [e]; exact List.mem_cons_self)).t (hw'.mono (fun i _ e => List.mem_cons_of_mem _ e))
theorem Marks.ne {B : Nat} {Ds : List Nat} {w : World} (h : Marks B Ds w) {g : Nat} {t : TypeId} {cs : Array Value} (hb : Blk w g t cs) : ¬ g ∈ Ds := fun hm => by
  have h1 := (h.2 g hm).2
  rw [show w.heap[g]? = _ from hb] at h1; cases h1
theorem ownsRow_kept' {W W' : World} {base : Nat} {e : TypeId} {size : Nat} {v : Value} {k : Nat} {xs : List Value} {row : Option Nat} (h : W.ownsRow base e size v k xs) (hg : W.grownBy W' row)
    (hrow : ∀ r, row = some r → ∃ o : Obj, W.heap[r]? = some o ∧ o.isCells = false) : W'.ownsRow base e size v k xs := by
  refine h.kept hg ?_
  rcases h.2 with ⟨rfl, _⟩ | ⟨g, cap, cur, rfl, _, hgb, _⟩
  · exact .inl rfl
  · refine .inr fun e' => ?_
    obtain ⟨o, ho, hc⟩ := hrow g (by simpa [Value.ownBlock] using e'.symm)
    rw [hgb] at ho; cases ho; cases hc

theorem ownsRow_G {W W' : World} {base : Nat} {e : TypeId} {size : Nat} {v : Value} {k : Nat} {xs : List Value} (h : W.ownsRow base e size v k xs) (hg : G W W') : W'.ownsRow base e size v k xs :=
  ownsRow_kept' (row := none) h ⟨hg.os, hg.tape, hg.output, hg.size, fun i hi _ => hg.block i hi⟩ (fun _ e => by cases e)

theorem upd_upd {α : Type} (f : Nat → α) (k : Nat) (u v : α) : upd (upd f k u) k v = upd f k v := by
  funext j
  unfold upd
  split <;> rfl
theorem grownBy_set (W : World) (a : Addr) (v : Value) : W.grownBy (W.setCell a v) (some a.block) :=
  ⟨rfl, rfl, rfl, (KeepsWalks.setCell W _ v).size, fun k _ hk => Below.heap_setCell _ _ _ k (fun e => hk (by rw [e]))⟩
theorem Blk.dr {w : World} {g : Nat} {t : TypeId} {cs : Array Value} (h : Blk w g t cs) : Blk w.drew g t cs := h
theorem own_ne {W : World} {g : Nat} {t e : TypeId} {cs : Array Value} {base size k : Nat} {v : Value} {xs : List Value} (hr : W.ownsRow base e size v k xs) (h : Blk W g t cs) (hte : t ≠ e) : some g ≠ v.ownBlock := by
  rcases hr.2 with ⟨rfl, _⟩ | ⟨g', cap, cur, rfl, _, hgb, _⟩
  · simp [Value.ownBlock]
  · intro e'
    obtain rfl : g = g' := by simpa [Value.ownBlock] using e'
    have := (show W.heap[g]? = _ from h).symm.trans hgb
    simp at this
    exact hte this.2
theorem own_far {W : World} {g : Nat} {e : TypeId} {base size k : Nat} {v : Value} {xs : List Value} (hr : W.ownsRow base e size v k xs) (hg : W.heap.size ≤ g) : some g ≠ v.ownBlock := by
  rcases hr.2 with ⟨rfl, _⟩ | ⟨g', cap, cur, rfl, _, hgb, _⟩
  · simp [Value.ownBlock]
  · intro e'
    obtain rfl : g = g' := by simpa [Value.ownBlock] using e'
    have := (Array.getElem?_eq_some_iff.1 hgb).1
    omega
theorem own_base {W : World} {g : Nat} {e : TypeId} {base size k : Nat} {v : Value} {xs : List Value} (hr : W.ownsRow base e size v k xs) (hg : v.ownBlock = some g) : base ≤ g := by
  rcases hr.2 with ⟨rfl, _⟩ | ⟨g', cap, cur, rfl, hb, hgb, _⟩
  · simp [Value.ownBlock] at hg
  · obtain rfl : g' = g := by simpa [Value.ownBlock] using hg
    exact hb
theorem own_cells {W : World} {g : Nat} {e : TypeId} {base size k : Nat} {v : Value} {xs : List Value} (hr : W.ownsRow base e size v k xs) (hg : v.ownBlock = some g) : ∃ c t f, W.heap[g]? = some (.cells c t f) := by
  rcases hr.2 with ⟨rfl, _⟩ | ⟨g', cap, cur, rfl, hb, hgb, _⟩
  · simp [Value.ownBlock] at hg
  · obtain rfl : g' = g := by simpa [Value.ownBlock] using hg
    exact ⟨_, _, _, hgb⟩
end Go.Proofs.YtcekdljjmfkacaaGreat
set_option linter.unusedSimpArgs false
set_option linter.unusedVariables false
namespace Go.Proofs.YtcekdljjmfkacaaGreat
open Go.RowKit Go.Shelf
attribute [local go_sem] Oper.semAt_some wide_fn wide_dep

/-- ints at a block -/
def IntsIn (W : World) (g off : Nat) (ls : List Int) : Prop := ∀ k, k < ls.length → W.cell? ⟨g, off + k, none⟩ = some (.int .i64 (ls.getD k 0))
theorem IntsIn.kb {A W : World} {g off : Nat} {ls : List Int} (h : IntsIn A g off ls) (hk : KB g A W) : IntsIn W g off ls :=
  fun k hl => (World.cell?_of_block (a := ⟨g, off + k, none⟩) hk).trans (h k hl)

end Go.Proofs.YtcekdljjmfkacaaGreat
set_option linter.unusedSimpArgs false
set_option linter.unusedVariables false
namespace Go.Proofs.YtcekdljjmfkacaaGreat
open Go.RowKit Go.Shelf
attribute [local go_sem] Oper.semAt_some wide_fn wide_dep wideR_fn wideR_dep

section
variable {F : Fence} {n : Nat} {P : Program}
/-- a range over a function whose one loop variable is a slot: tb -/
theorem rangeFunc_var {α : Type} {g : Operand} {tv : Tmp} {assign body : Code} {Q : Exit → Act → World → Prop} {a : Act} {w : World}
    (hro : F.round = none) (h1 : 1 ≤ n) {gf : Nat} {lb : Array Value} (hg : a.eval g = .func (.func gf) #[] lb) (hFg : F.fn gf) (eg : ∀ args w, (callFunc gf args).run P w = .ok (.enter gf args) w)
    {ev : α → Value} {B : Nat} {S Sp : List α → Prop} {N : Nat} {w0 : World} (hseq : SeqStopsK F (n - 1) P gf lb (fun x => #[ev x]) (KB B) S Sp N w0)
    (hB : B < w.heap.size) (hb0 : Below w0.heap.size w0 w)
    (I : List α → World → Prop) (Ix : Code → List α → World → Prop) (hI : OwnFrom w.heap.size I) (hIx : ∀ c, OwnFrom w.heap.size (Ix c)) (h0 : I [] w)
    (tb : Tmp)
    (hassign : ∀ (l : Nat) (x : α) (W : World) (K : Act → World → Prop), K { tmps := (a.tmps.setIfInBounds tv (ev x)).setIfInBounds tb (ev x), defers := [] } W →
      assign.wpIn (F.inRound l) (n - 1 - 1) P (Exit.then K (fun _ _ _ => False)) { tmps := a.tmps.setIfInBounds tv (ev x), defers := [] } W)
    (hbody : ∀ (l : Nat) (pre : List α) (x : α) (W : World), w.heap.size ≤ l → (∃ r, W.heap[l]? = some (.loop r)) → I pre W → pre.length < N →
      body.wpIn (F.inRound l) (n - 1 - 1) P (ownPostG w.heap.size (KB B) I Ix (pre ++ [x]) W) { tmps := (a.tmps.setIfInBounds tv (ev x)).setIfInBounds tb (ev x), defers := [] } W)
    (hdone : ∀ (D : Nat) (xs : List α) (W : World), w.heap.size ≤ D → S xs → I xs W → W.heap[D]? = some (.deferred (some [])) → Q .normal { a with defers := { target := .collected D, args := #[] } :: a.defers } W)
    (hstop : ∀ (D : Nat) (c : Code) (pre : List α) (W : World), w.heap.size ≤ D → Sp pre → Ix c pre W → W.heap[D]? = some (.deferred (some [])) → c.wpIn F n P Q { a with defers := { target := .collected D, args := #[] } :: a.defers } W) :
    (Code.rangeFunc g #[tv] assign body).wpIn F n P Q a w := by
  refine wpIn_rangeFunc_ownH hro h1 hg hFg eg hseq (fun h k => KB.t h k) (KB.b hB) hb0 (fun _ => rfl) I Ix hI hIx h0
    (fun x a' _ => a' = { tmps := (a.tmps.setIfInBounds tv (ev x)).setIfInBounds tb (ev x), defers := [] })
    ?_ ?_ ?_ hdone hstop
  · rintro x a' _ X Y row h _ _
    exact h
  · intro l pre x W K hi hK
    have e : ((#[tv] : Array Tmp).zip #[ev x]).foldl (fun t (p, v) => t.setIfInBounds p v) a.tmps = a.tmps.setIfInBounds tv (ev x) := by simp
    rw [e]
    exact hassign l x W K (hK _ _ ((KeepsOthers.refl W).from _) (KB.rf _ _) hi rfl)
  · rintro l pre x a' W hl hr hi rfl hN
    exact hbody l pre x W hl hr hi hN
end

theorem own_weaken {W : World} {base base' : Nat} {e : TypeId} {size k : Nat} {v : Value} {xs : List Value} (h : W.ownsRow base e size v k xs) (hb : base' ≤ base) : W.ownsRow base' e size v k xs := by
  refine ⟨h.1, ?_⟩
  rcases h.2 with h' | ⟨g, cap, cur, h1, h2, h3⟩
  · exact .inl h'
  · exact .inr ⟨g, cap, cur, h1, Nat.le_trans hb h2, h3⟩
theorem cell_one_new (w : World) (t : TypeId) (v : Value) : ∀ j u, [v][j]? = some u → (w.alloc (.cells #[v] t)).cell? ((⟨w.heap.size, 0, none⟩ : Addr).add j) = some u :=
  World.news_of_block (cs := #[v]) (t := t) (fr := (0, 0)) (heap_alloc_new w _)
def ApInv (w : World) (pre : List Int) (W : World) : Prop :=
  ∃ v, Blk W w.heap.size 22 #[v] ∧ W.ownsRow (w.heap.size + 1) 3 1 v pre.length (pre.map (Value.int .i64)) ∧ G w W ∧ w.heap.size + 1 ≤ W.heap.size
theorem apInv_own (w : World) (B : Nat) (hB : w.heap.size + 1 ≤ B) : OwnFrom B (ApInv w) := by
  rintro pre X Y row ⟨v, b1, hr, hG, hs⟩ hg hrow
  have hn : some w.heap.size ≠ row := fun e => by
    obtain ⟨_, o, ho, hc⟩ := hrow _ e.symm
    rw [show X.heap[w.heap.size]? = _ from b1] at ho; cases ho; cases hc
  exact ⟨v, b1.grown hg hn, ownsRow_kept' hr hg (fun r e => (hrow r e).2), (((G.fr (R := fun _ => False) hG).grown hg (fun g e => .inr (by have := (hrow g e).1; omega)))).toG (fun _ _ h => h), Nat.le_trans hs hg.size⟩

theorem info3 : (Tryz.prog.info? 3).map (fun i => (i.zero, i.size, i.bytes)) = some (some (.int .i64 0), 1, 8) := by kernel_rfl

end Go.Proofs.YtcekdljjmfkacaaGreat
set_option linter.unusedSimpArgs false
set_option linter.unusedVariables false
namespace Go.Proofs.YtcekdljjmfkacaaGreat
open Go.RowKit Go.Shelf

/-- what an iterator does by itself: it may lay blocks, and write those cells of its own (from B on) that are of a type in T -/
structure Kt (T : TypeId → Prop) (B : Nat) (X Y : World) : Prop where
  os : Y.os = X.os
  tape : Y.tape = X.tape
  output : Y.output = X.output
  size : X.heap.size ≤ Y.heap.size
  block : ∀ i o, X.heap[i]? = some o → (i < B ∨ ∀ c t f, o = .cells c t f → ¬ T t) → Y.heap[i]? = some o
section
variable {T : TypeId → Prop} {B : Nat} {X Y Z : World}
theorem Kt.rf (T : TypeId → Prop) (B : Nat) (X : World) : Kt T B X X := ⟨rfl, rfl, rfl, Nat.le_refl _, fun _ _ h _ => h⟩
theorem Kt.t (h : Kt T B X Y) (k : Kt T B Y Z) : Kt T B X Z := ⟨k.os.trans h.os, k.tape.trans h.tape, k.output.trans h.output, Nat.le_trans h.size k.size, fun i o hi hc => k.block i o (h.block i o hi hc) hc⟩
theorem G.kt (h : G X Y) : Kt T B X Y := ⟨h.os, h.tape, h.output, h.size, fun i o hi _ => (h.block i (Array.getElem?_eq_some_iff.1 hi).1).trans hi⟩
theorem Kt.blk {g : Nat} {t : TypeId} {cs : Array Value} (h : Kt T B X Y) (b : Blk X g t cs) (hb : g < B ∨ ¬ T t) : Blk Y g t cs :=
  h.block g _ b (hb.elim .inl (fun ht => .inr (fun c t' f e => by cases e; exact ht)))
/-- a store into a block of the iterator's own -/
theorem Kt.set {g i : Nat} {t : TypeId} {cs : Array Value} (b : Blk X g t cs) (hB : B ≤ g) (hT : T t) (v : Value) : Kt T B X (X.setCell ⟨g, i, none⟩ v) :=
  ⟨rfl, rfl, rfl, by simp [World.setCell], fun k o hk hc => (Below.heap_setCell X _ v k (fun e => by
    have e' : k = g := e
    rw [e', show X.heap[g]? = _ from b] at hk
    cases hk
    rcases hc with h | h
    · omega
    · exact h _ _ _ rfl hT)).trans hk⟩
end
def StableT {β : Type} (T : TypeId → Prop) (B : Nat) (J : β → World → Prop) : Prop := ∀ s X Y, J s X → Kt T B X Y → J s Y

/-- the contract of an iterator that writes cells of its own -/
def SeqT {α : Type} (T : TypeId → Prop) (F : Fence) (n : Nat) (P : Program) (g : Nat) (lb : Array Value) (ev : α → Value) (Kp : World → World → Prop) (S Sp : List α → Prop) (N : Nat) (w : World) : Prop :=
  ∀ (l : Nat) (J Jx : List α → World → Prop) (W : World), G w W → StableT T W.heap.size J → StableT T W.heap.size Jx →
    (∀ pre x W1, J pre W1 → pre.length < N → YieldAt F (n - 1) P l #[ev x] W1 fun e W' => (e = .returned (.bool true) ∧ J (pre ++ [x]) W' ∧ Kp W1 W') ∨ (e = .returned (.bool false) ∧ Jx (pre ++ [x]) W')) →
    J [] W → CallsIn F n P g (#[.func (.yield l) #[] #[]] ++ lb) W fun e W' => (∃ v, e = .returned v) ∧ ((∃ xs, S xs ∧ J xs W') ∨ (∃ pre, Sp pre ∧ Jx pre W'))

/-- the loop's record and the block for the rounds' deferred calls -/
def Bk (l D : Nat) (r : Loop) (W : World) : Prop := W.heap[l]? = some (.loop r) ∧ W.heap[D]? = some (.deferred (some []))
section
variable {l D B : Nat} {r r' : Loop} {X Y : World} {T : TypeId → Prop}
theorem Bk.kt (h : Bk l D r X) (k : Kt T B X Y) : Bk l D r Y := ⟨k.block _ _ h.1 (.inr (fun _ _ _ e => by cases e)), k.block _ _ h.2 (.inr (fun _ _ _ e => by cases e))⟩
theorem Bk.keeps (h : Bk l D r X) (k : KeepsFrom B X Y) (hl : B ≤ l) (hD : B ≤ D) : Bk l D r Y := ⟨k.same _ _ hl h.1 rfl, k.same _ _ hD h.2 rfl⟩
theorem Bk.put (h : Bk l D r X) (hn : D ≠ l) (r' : Loop) : Bk l D r' (X.putObj l (.loop r')) := ⟨World.putObj_heap_same (Array.getElem?_eq_some_iff.1 h.1).1, (World.putObj_heap_other hn).trans h.2⟩
end

section
variable {F : Fence} {n : Nat} {P : Program}
/-- a range over a function that writes cells of its own; the loop variable is boxed, its box's address is in slot tb -/
theorem rangeFunc_T {α : Type} {T : TypeId → Prop} {g : Operand} {tv : Tmp} {assign body : Code} {Q : Exit → Act → World → Prop} {a : Act} {w : World}
    (hro : F.round = none) (h1 : 1 ≤ n) {gf : Nat} {lb : Array Value} (hg : a.eval g = .func (.func gf) #[] lb) (hFg : F.fn gf) (eg : ∀ args w, (callFunc gf args).run P w = .ok (.enter gf args) w)
    {ev : α → Value} {Kp : World → World → Prop} {S Sp : List α → Prop} {N : Nat} {w0 : World} (hseq : SeqT T F (n - 1) P gf lb ev Kp S Sp N w0) (hb0 : G w0 w)
    (hKt : ∀ {A B C : World}, Kp A B → Kp B C → Kp A C) (hKb : ∀ (W : World) (l : Nat) (o o' : Obj), w.heap.size ≤ l → W.heap[l]? = some o → o.isCells = false → Kp W (W.putObj l o')) (hKa : ∀ W o, Kp W (W.alloc o))
    (I : List α → World → Prop) (Ix : Code → List α → World → Prop) (hI : OwnFrom w.heap.size I) (hIx : ∀ c, OwnFrom w.heap.size (Ix c)) (hIT : ∀ B, w.heap.size ≤ B → StableT T B I) (hIxT : ∀ c B, w.heap.size ≤ B → StableT T B (Ix c)) (h0 : I [] w)
    (tb : Tmp) (tt : TypeId) (bx : α → Array Value)
    (hassign : ∀ (l : Nat) (x : α) (W : World) (K : Act → World → Prop), K { tmps := (a.tmps.setIfInBounds tv (ev x)).setIfInBounds tb (.pointer (some ⟨W.heap.size, 0, none⟩)), defers := [] } (W.alloc (.cells (bx x) tt)) →
      assign.wpIn (F.inRound l) (n - 1 - 1) P (Exit.then K (fun _ _ _ => False)) { tmps := a.tmps.setIfInBounds tv (ev x), defers := [] } W)
    (hbody : ∀ (l : Nat) (pre : List α) (x : α) (Bp : Nat) (W : World), I pre W → w.heap.size ≤ Bp → Blk W Bp tt (bx x) → pre.length < N →
      body.wpIn (F.inRound l) (n - 1 - 1) P (ownPostG w.heap.size Kp I Ix (pre ++ [x]) W) { tmps := (a.tmps.setIfInBounds tv (ev x)).setIfInBounds tb (.pointer (some ⟨Bp, 0, none⟩)), defers := [] } W)
    (hdone : ∀ (D : Nat) (xs : List α) (W : World), w.heap.size ≤ D → S xs → I xs W → W.heap[D]? = some (.deferred (some [])) → Q .normal { a with defers := { target := .collected D, args := #[] } :: a.defers } W)
    (hstop : ∀ (D : Nat) (c : Code) (pre : List α) (W : World), w.heap.size ≤ D → Sp pre → Ix c pre W → W.heap[D]? = some (.deferred (some [])) → c.wpIn F n P Q { a with defers := { target := .collected D, args := #[] } :: a.defers } W) :
    (Code.rangeFunc g #[tv] assign body).wpIn F n P Q a w := by
  refine wpIn_rangeFunc (fun fn hfn => ?_)
  rw [hro]
  obtain ⟨D, hD⟩ : ∃ D, D = w.heap.size := ⟨_, rfl⟩
  obtain ⟨rc, hrc⟩ : ∃ rc : LoopState → Option Code → Loop, ∀ s c, rc s c = { state := s, pending := c, fn := fn, tmps := a.tmps, params := #[tv], assign := assign, body := body, defers := D } := ⟨fun s c => _, fun _ _ => rfl⟩
  have hent := run_enterLoop_outer (P := P) (w := w) fn a.tmps #[tv] assign body
  rw [← hD, ← hrc] at hent
  have hG1 : G w ((w.alloc (.deferred (some []))).alloc (.loop (rc .ready none))) := ((G.rf w).a _).a _
  have hB1 : Bk (D + 1) D (rc .ready none) ((w.alloc (.deferred (some []))).alloc (.loop (rc .ready none))) := by
    subst hD
    refine ⟨?_, (Below.heap_alloc _ _ _ (by simp)).trans (World.alloc_heap_new w _)⟩
    have := World.alloc_heap_new (w.alloc (.deferred (some []))) (.loop (rc .ready none))
    rwa [World.size_alloc] at this
  have hI1 : I [] ((w.alloc (.deferred (some []))).alloc (.loop (rc .ready none))) := hI.alloc _ (hI.alloc _ h0)
  generalize (w.alloc (.deferred (some []))).alloc (.loop (rc .ready none)) = W1 at *
  refine ⟨D + 1, [{ target := .collected D, args := #[] }], W1, { target := .fn (.func gf) lb, args := #[.func (.yield (D + 1)) #[] #[]] }, W1, gf, #[.func (.yield (D + 1)) #[] #[]] ++ lb, W1, hent, ?_, ?_, ?_, fun _ => h1, ?_⟩
  · simp only [resolve, hg]; simp [go_sem]
  · intro f' hf'; simp [Target.leads] at hf'; subst hf'; exact hFg
  · simp [invoke, go_sem, eg]
  refine (hseq (D + 1) (fun pre W => I pre W ∧ Bk (D + 1) D (rc .ready none) W) (fun pre W => ∃ c, Ix c pre W ∧ Bk (D + 1) D (rc .done (some c)) W) W1 (hb0.t hG1)
    (fun s A C h k => ⟨hIT _ hG1.size s A C h.1 k, h.2.kt k⟩) (fun s A C ⟨c, h, hb⟩ k => ⟨c, hIxT c _ hG1.size s A C h k, hb.kt k⟩) ?_ ⟨hI1, hB1⟩).mono ?_
  · rintro pre x W ⟨hi, hb⟩ hlen
    have hy := run_yield (P := P) (args := #[ev x]) hb.1 (by rw [hrc]; rfl)
    rw [hrc] at hy
    refine ⟨fn, _, assign, body, hy, roundIn_of_wpIn hfn ?_⟩
    have e : ((#[tv] : Array Tmp).zip #[ev x]).foldl (fun t (p, v) => t.setIfInBounds p v) a.tmps = a.tmps.setIfInBounds tv (ev x) := by simp
    rw [e]
    refine hassign _ x W _ ?_
    have hlt : D + 1 < W.heap.size := (Array.getElem?_eq_some_iff.1 hb.1).1
    have hbA : Bk (D + 1) D (rc .ready none) (W.alloc (.cells (bx x) tt)) := hb.kt (T := fun _ => False) (B := 0) (G.kt ((G.rf W).a _))
    refine ⟨_, run_beginRound hbA.1 (by rw [hrc]), ?_⟩
    have hbB := hbA.put (by omega) { rc .ready none with state := .busy }
    have hxB : Blk ((W.alloc (.cells (bx x) tt)).putObj (D + 1) (.loop { rc .ready none with state := .busy })) W.heap.size tt (bx x) := (World.putObj_heap_other (by omega)).trans (Blk.new W tt (bx x))
    have hKB : Kp W ((W.alloc (.cells (bx x) tt)).putObj (D + 1) (.loop { rc .ready none with state := .busy })) := hKt (hKa W _) (hKb _ _ _ _ (by omega) hbA.1 rfl)
    have hIB := hI.putObj (.loop { rc .ready none with state := .busy }) (hI.alloc (.cells (bx x) tt) hi) (by omega) hbA.1 rfl
    refine wpIn_mono (hbody _ pre x _ _ hIB (by omega) hxB hlen) ?_
    have fin : ∀ (j : Option Code) (W3 : World), KeepsFrom w.heap.size ((W.alloc (.cells (bx x) tt)).putObj (D + 1) (.loop { rc .ready none with state := .busy })) W3 →
        (Instr.endRound (D + 1) j).run P W3 = .ok (.bool j.isNone) (W3.putObj (D + 1) (.loop (rc (if j.isNone then .ready else .done) j))) ∧ W3.heap[D + 1]? = some (.loop { rc .ready none with state := .busy }) ∧ Bk (D + 1) D (rc (if j.isNone then .ready else .done) j) (W3.putObj (D + 1) (.loop (rc (if j.isNone then .ready else .done) j))) := fun j W3 hk => by
      have hb3 := hbB.keeps hk (by omega) (by omega)
      have h := run_endRound (P := P) j hb3.1
      refine ⟨?_, hb3.1, hb3.put (by omega) _⟩
      rw [hrc] at h ⊢
      exact h
    rintro e a3 W3 hp
    cases e with
    | normal =>
      obtain ⟨hk, hkp, hi3⟩ := hp
      obtain ⟨hr, hl3, hb3⟩ := fin none W3 hk
      exact ⟨_, _, hr, .inl ⟨rfl, ⟨hI.putObj _ hi3 (by omega) hl3 rfl, hb3⟩, hKt hKB (hKt hkp (hKb _ _ _ _ (by omega) hl3 rfl))⟩⟩
    | ret =>
      obtain ⟨hk, hi3⟩ := hp
      obtain ⟨hr, hl3, hb3⟩ := fin (some .ret) W3 hk
      exact ⟨_, _, hr, .inr ⟨rfl, .ret, (hIx _).putObj _ hi3 (by omega) hl3 rfl, hb3⟩⟩
    | exit id =>
      obtain ⟨hk, hi3⟩ := hp
      obtain ⟨hr, hl3, hb3⟩ := fin (some (.exit id)) W3 hk
      exact ⟨_, _, hr, .inr ⟨rfl, .exit id, (hIx _).putObj _ hi3 (by omega) hl3 rfl, hb3⟩⟩
    | goto t =>
      obtain ⟨hk, hi3⟩ := hp
      obtain ⟨hr, hl3, hb3⟩ := fin (some (.goto t)) W3 hk
      exact ⟨_, _, hr, .inr ⟨rfl, .goto t, (hIx _).putObj _ hi3 (by omega) hl3 rfl, hb3⟩⟩
    | panic ch => exact hp.elim
    | outgrown => exact hp.elim
  · rintro e W2 ⟨⟨v, rfl⟩, (⟨xs, hS, hi, hb⟩ | ⟨pre, hSp, c, hi, hb⟩)⟩
    · have h := run_endLoop (P := P) hb.1 (by rw [hrc]; simp)
      rw [hrc] at h
      exact ⟨none, _, h, hdone _ xs _ (by omega) hS (hI.putObj _ hi (by omega) hb.1 rfl) ((World.putObj_heap_other (by omega)).trans hb.2)⟩
    · have h := run_endLoop (P := P) hb.1 (by rw [hrc]; simp)
      rw [hrc] at h
      exact ⟨some c, _, h, hstop _ c pre _ (by omega) hSp ((hIx c).putObj _ hi (by omega) hb.1 rfl) ((World.putObj_heap_other (by omega)).trans hb.2)⟩
end
end Go.Proofs.YtcekdljjmfkacaaGreat
set_option linter.unusedSimpArgs false
set_option linter.unusedVariables false
namespace Go.Proofs.YtcekdljjmfkacaaGreat
open Go.RowKit

end Go.Proofs.YtcekdljjmfkacaaGreat
set_option linter.unusedSimpArgs false
set_option linter.unusedVariables false
namespace Go.Proofs.YtcekdljjmfkacaaGreat
open Go.RowKit

/-- the ways with one more loft, of whose spots l are counted -/
def pw (sp : Int) (l : List Nat) (f : Nat → Nat) (t : Nat) : Nat := if (t : Int) ≤ sp then (l.map fun m => if m ≤ t then f (t - m) else 0).sum else 0
def ways (sp : Int) (rows : Nat → List Sp) : Nat → Nat → Nat
  | 0 => fun t => if t = 0 then 1 else 0
  | k + 1 => pw sp ((rows k).map Sp.more) (ways sp rows k)
def manyN (sp : Int) (rows : Nat → List Sp) (k : Nat) : Nat := ways sp rows k 0 + ways sp rows k 1 + ways sp rows k 2 + ways sp rows k 3
def wc (f : Nat → Nat) : Array Value := #[.int .i64 (f 0), .int .i64 (f 1), .int .i64 (f 2), .int .i64 (f 3)]
theorem wc_get (f : Nat → Nat) {t : Nat} (h : t < 4) : (wc f)[t]? = some (.int .i64 (f t)) := by
  match t, h with
  | 0, _ => rfl
  | 1, _ => rfl
  | 2, _ => rfl
  | 3, _ => rfl
theorem wc_set (f : Nat → Nat) {t : Nat} (h : t < 4) (v : Nat) : (wc f).setIfInBounds t (.int .i64 v) = wc (upd f t v) := by
  match t, h with
  | 0, _ => rfl
  | 1, _ => rfl
  | 2, _ => rfl
  | 3, _ => rfl
theorem sum_le_mul (f : Nat → Nat) (B : Nat) (t : Nat) (hf : ∀ t, f t ≤ B) : ∀ (l : List Nat), (l.map fun m => if m ≤ t then f (t - m) else 0).sum ≤ l.length * B
  | [] => by simp
  | m :: l => by
    have h1 := sum_le_mul f B t hf l
    have h2 : (if m ≤ t then f (t - m) else 0) ≤ B := by split <;> simp [hf]
    simp only [List.map_cons, List.sum_cons, List.length_cons, Nat.add_mul, Nat.one_mul]
    omega
theorem pw_nil (sp : Int) (f : Nat → Nat) : pw sp [] f = fun _ => 0 := by
  funext t; unfold pw; split <;> rfl
theorem pw_le (sp : Int) (f : Nat → Nat) (B : Nat) (hf : ∀ t, f t ≤ B) (l : List Nat) (t : Nat) : pw sp l f t ≤ l.length * B := by
  unfold pw
  split
  · exact sum_le_mul f B t hf l
  · exact Nat.zero_le _
theorem ways_le (sp : Int) (rows : Nat → List Sp) : ∀ (k : Nat), (∀ j, j < k → (rows j).length ≤ 100) → ∀ t, ways sp rows k t ≤ 100 ^ k
  | 0, _, t => by unfold ways; split <;> simp
  | k + 1, h, t => by
    have h1 := ways_le sp rows k (fun j hj => h j (by omega))
    have h2 := pw_le sp (ways sp rows k) (100 ^ k) h1 ((rows k).map Sp.more) t
    have h3 := h k (by omega)
    simp only [List.length_map] at h2
    have h4 : (rows k).length * 100 ^ k ≤ 100 * 100 ^ k := Nat.mul_le_mul_right _ h3
    unfold ways
    rw [Nat.pow_succ]
    omega
/-- .. and of the spot m the ways to numbers below t -/
def pp (g f : Nat → Nat) (m t : Nat) (t' : Nat) : Nat := g t' + if m ≤ t' ∧ t' < t then f (t' - m) else 0
theorem pp_start (g f : Nat → Nat) (m : Nat) : pp g f m m = g := by
  funext t'; unfold pp; rw [if_neg (by omega)]; rfl
theorem pp_step (g f : Nat → Nat) (m t : Nat) (h : m ≤ t) : upd (pp g f m t) t (pp g f m t t + f (t - m)) = pp g f m (t + 1) := by
  funext t'
  unfold upd pp
  by_cases e : t' = t
  · subst e
    rw [if_pos rfl, if_neg (by omega), if_pos (by omega)]; omega
  · rw [if_neg e]
    by_cases h2 : m ≤ t' ∧ t' < t
    · rw [if_pos h2, if_pos (by omega)]
    · rw [if_neg h2, if_neg (by omega)]
theorem pp_end (sp : Int) (f : Nat → Nat) (l : List Nat) (m t : Nat) (h1 : m ≤ t) (h2 : t = m ∨ (t : Int) ≤ sp + 1) (h3 : ¬ (t : Int) ≤ sp) : pp (pw sp l f) f m t = pw sp (l ++ [m]) f := by
  funext t'
  unfold pp pw
  by_cases h4 : (t' : Int) ≤ sp
  · rw [if_pos h4, if_pos h4]
    simp only [List.map_append, List.sum_append, List.map_cons, List.map_nil, List.sum_cons, List.sum_nil]
    by_cases h5 : m ≤ t'
    · rw [if_pos ⟨h5, by omega⟩, if_pos h5]; omega
    · rw [if_neg (by omega), if_neg h5]; omega
  · rw [if_neg h4, if_neg h4, if_neg (by omega)]
theorem pp_le (g f : Nat → Nat) (m t B C : Nat) (hg : ∀ t, g t ≤ C) (hf : ∀ t, f t ≤ B) (t' : Nat) : pp g f m t t' ≤ C + B := by
  unfold pp
  have := hg t'
  split
  · have := hf (t' - m); omega
  · omega

def tot (f : Nat → Nat) : Nat → Nat
  | 0 => 0
  | j + 1 => tot f j + f j
theorem tot_le (f : Nat → Nat) (B : Nat) (hf : ∀ t, f t ≤ B) : ∀ j, tot f j ≤ j * B
  | 0 => Nat.zero_le _
  | j + 1 => by
    have h1 := tot_le f B hf j
    have h2 := hf j
    rw [Nat.add_mul, Nat.one_mul]
    unfold tot
    omega
end Go.Proofs.YtcekdljjmfkacaaGreat
set_option linter.unusedSimpArgs false
set_option linter.unusedVariables false
namespace Go.Proofs.YtcekdljjmfkacaaGreat
open Go.RowKit

theorem checkE_zero {north cols lofts wrong : Int} {east : List Int} {svs : List Sv} (h : checkE north cols east lofts svs wrong = 0) : validMapB north cols east lofts wrong = true ∧ svs.length ≤ 16 ∧ svs.all (svOk cols east.length lofts) = true := by
  have hv := checkE_ok h
  unfold checkE at h
  rw [hv] at h
  simp only [Bool.true_eq_false, if_false] at h
  by_cases h1 : svs.length > 16
  · rw [if_pos h1] at h; omega
  · rw [if_neg h1] at h
    refine ⟨hv, by omega, ?_⟩
    cases h2 : svs.all (svOk cols east.length lofts)
    · rw [h2] at h; simp at h
    · rfl
/-- the number of the truths -/
def manyV (north wrong : Int) (cols lofts : Nat) (east : List Int) (svs : List Sv) : Nat := manyN (wrong - (fewSum north cols east svs lofts : Int)) (spotsOf north cols east svs) lofts

theorem spotsOf_len (north : Int) (cols : Nat) (east : List Int) (svs : List Sv) (j : Nat) (hc : cols ≤ 10) (hr : east.length ≤ 10) : (spotsOf north cols east svs j).length ≤ 100 := by
  simp only [spotsOf, List.length_map, allP_len]
  exact Nat.mul_le_mul hr hc

end Go.Proofs.YtcekdljjmfkacaaGreat
set_option linter.unusedSimpArgs false
set_option linter.unusedVariables false
namespace Go.Proofs.YtcekdljjmfkacaaGreat
open Go.RowKit

end Go.Proofs.YtcekdljjmfkacaaGreat
