import Derived.RangeFuncNested
import Derived.RangeFuncBound
import Derived.RangeFuncCalls
import Derived.RangeFuncLeaves
import Derived.Shelf.Abstract
import Derived.Shelf.RegionOpen
import Derived.WalkKit
import Derived.OwnWalkIn
import Derived.TacticsInMore
import Derived.LoopNIn
import Derived.LoopIn
import Derived.Test.YtdneehbhncekaaaKa
import Derived.OrdersHeld
import Derived.OrdersIn
import Derived.TacticsIn
import Derived.Deep.RegionHeld
import Derived.Deep.AppendLies
set_option linter.unusedSimpArgs false
set_option linter.unusedVariables false
namespace Go.Proofs.Ytdneehbhncekaaa
open Go.RowKit Go.Shelf
attribute [local go_sem] Oper.semAt_some

def rowP (y n : Nat) : List (Nat × Nat) := (List.range n).map fun x => (x, y)
def allP (cols rows : Nat) : List (Nat × Nat) := (List.range rows).flatMap fun y => rowP y cols
def ptV (p : Nat × Nat) : Value := .agg #[.int .i64 p.1, .int .i64 p.2]

theorem rowP_succ (y n : Nat) : rowP y (n + 1) = rowP y n ++ [(n, y)] := by simp [rowP, List.range_succ]
theorem allP_succ (cols rows : Nat) : allP cols (rows + 1) = allP cols rows ++ rowP rows cols := by simp [allP, List.range_succ, List.flatMap_append]
theorem allP_len (cols rows : Nat) : (allP cols rows).length = rows * cols := by
  induction rows with
  | zero => simp [allP]
  | succ n ih => rw [allP_succ, List.length_append, ih, rowP, List.length_map, List.length_range, Nat.succ_mul]
theorem allP_pre (cols rows y x : Nat) (hy : y < rows) (hx : x ≤ cols) : allP cols y ++ rowP y x <+: allP cols rows := by
  have h1 : allP cols (y + 1) <+: allP cols rows := by
    obtain ⟨k, rfl⟩ : ∃ k, rows = y + 1 + k := ⟨rows - (y + 1), by omega⟩
    clear hy
    induction k with
    | zero => exact List.prefix_rfl
    | succ k ih => exact ih.trans (by rw [show y + 1 + (k + 1) = (y + 1 + k) + 1 from rfl, allP_succ]; exact List.prefix_append _ _)
  refine List.IsPrefix.trans ?_ h1
  rw [allP_succ]
  obtain ⟨k, rfl⟩ : ∃ k, cols = x + k := ⟨cols - x, by omega⟩
  refine (List.prefix_append_right_inj _).2 ?_
  simp [rowP, List.range_add]
/-- what an iterator asks that a round keeps: its own box -/
def KB (B : Nat) (A W : World) : Prop := W.heap[B]? = A.heap[B]?
theorem KB.rf (B : Nat) (A : World) : KB B A A := rfl
theorem KB.t {B : Nat} {A C D : World} (h : KB B A C) (k : KB B C D) : KB B A D := Eq.trans k h
theorem KB.blk {B : Nat} {A W : World} (h : KB B A W) {t : TypeId} {cs : Array Value} (k : Blk A B t cs) : Blk W B t cs := Eq.trans h k
theorem KB.b {B : Nat} {w : World} (hB : B < w.heap.size) (W : World) (l : Nat) (o o' : Obj) (hl : w.heap.size ≤ l) (_ : W.heap[l]? = some o) (_ : o.isCells = false) (_ : o.isWalk = false) : KB B W (W.putObj l o') :=
  World.putObj_heap_other (by omega)
theorem rowP_len (y n : Nat) : (rowP y n).length = n := by simp [rowP]

set_option maxRecDepth 100000 in
set_option maxHeartbeats 2000000 in
theorem allPl_in (F : Fence) (n : Nat) (h106 : F.fn 69) (hro : F.round = none) (hn : 1 ≤ n) (l B cols rows ec : Nat) (north : Int) (ea : Option Addr) (lv sv wv : Value) (hc1 : cols ≤ 10) (hr1 : rows ≤ 10)
    (J Jx : List (Nat × Nat) → World → Prop)
    (hY : ∀ pre x W, x.1 < cols → x.2 < rows → J pre W → pre.length < rows * cols → YieldAt F (n - 1) Try.prog l #[ptV x] W fun e W' =>
      (e = .returned (.bool true) ∧ J (pre ++ [x]) W' ∧ KB B W W') ∨ (e = .returned (.bool false) ∧ Jx (pre ++ [x]) W'))
    (W : World) (hBs : Blk W B 25 #[.int .i64 north, .int .i64 cols, .slice ea rows ec, lv, sv, wv]) (h0 : J [] W) :
    CallsIn F n Try.prog 69 #[.func (.yield l) #[] #[], .pointer (some ⟨B, 0, none⟩)] W fun e W' => (∃ v, e = .returned v) ∧
      ((∃ ys, ys = allP cols rows ∧ J ys W') ∨ (∃ pre, pre <+: allP cols rows ∧ Jx pre W')) := by
  have c2 := hBs.cell 2
  have c1 := hBs.cell 1
  refine callsIn_of_wp Try.func69 rfl h106 ?_ hro
  simp only [Try.ntmps69, List.size_toArray, List.length_cons, List.length_nil, Nat.reduceAdd, Nat.reduceSub, Array.replicate_succ, Array.replicate_zero, List.push_toArray, List.append_toArray, List.nil_append, List.cons_append]
  gi_wp2
  gi_loopw [8] (fun i wr => ∃ y : Nat, y ≤ rows ∧ i = .int .i64 y ∧ J (allP cols y) wr ∧ KB B W wr)
    (fun i _ => rows - (intOf i).toNat)
  case atStart => exact ⟨0, Nat.zero_le _, rfl, h0, KB.rf _ _⟩
  case round =>
    obtain ⟨y, hy, rfl, hJs, hnx⟩ := hrel
    by_cases hlt : y < rows
    · have c1' : wr.cell? ⟨B, 1, none⟩ = some (.int .i64 cols) := (hnx.blk hBs).cell 1
      obtain ⟨wo, rfl⟩ : ∃ wo, wo = wr := ⟨_, rfl⟩
      gi_wp2
      gi_loopw [13] (fun i wi => ∃ x : Nat, x ≤ cols ∧ i = .int .i64 x ∧ J (allP cols y ++ rowP y x) wi ∧ KB B W wi)
        (fun i _ => cols - (intOf i).toNat)
      case atStart => exact ⟨0, Nat.zero_le _, rfl, by simpa [rowP] using hJs, hnx⟩
      case round =>
        rename_i wi _ _ _ _ _ _ _ _ _ _
        obtain ⟨x, hx, rfl, hJi, hni⟩ := hrel
        by_cases hlx : x < cols
        · have hlen : (allP cols y ++ rowP y x).length < rows * cols := by
            rw [List.length_append, allP_len, rowP_len]
            have := Nat.mul_le_mul_right cols (show y + 1 ≤ rows by omega)
            rw [Nat.succ_mul] at this
            omega
          obtain ⟨fn, tmps, assign, body, hy', hR⟩ := hY _ (x, y) _ hlx hlt hJi hlen
          dsimp only [ptV] at hy'
          gi_wp2
          refine hR.mono ?_
          rintro e W3 (⟨rfl, hJ3, hk3⟩ | ⟨rfl, hJx3⟩)
          · gi_wp2
            go_roundw
            case rel => exact ⟨x + 1, by omega, by simp, by rw [rowP_succ, ← List.append_assoc]; exact hJ3, hni.t hk3⟩
            case measure => simp [intOf]; omega
          · gi_wp2
            refine bodyPost_ret (results_none rfl _ _ _) rfl ?_
            exact ⟨⟨_, rfl⟩, .inr ⟨_, by rw [List.append_assoc, ← rowP_succ]; exact allP_pre cols rows y (x + 1) hlt (by omega), hJx3⟩⟩
        · obtain rfl : x = cols := by omega
          gi_wp2
          go_roundw
          case rel => exact ⟨y + 1, by omega, by simp, by rw [allP_succ]; exact hJi, hni⟩
          case measure => simp [intOf]; omega
    · obtain rfl : y = rows := by omega
      gi_wp2
      go_end0
      exact ⟨⟨_, rfl⟩, .inl ⟨_, rfl, hJs⟩⟩

/-- a place of a map -/
abbrev Pl (cols rows : Nat) := { p : Nat × Nat // p.1 < cols ∧ p.2 < rows }
theorem allPl_stops (n : Nat) (hn : 1 ≤ n) (B cols rows ec : Nat) (north : Int) (ea : Option Addr) (lv sv wv : Value) (hc1 : cols ≤ 10) (hr1 : rows ≤ 10) (w : World)
    (hBs : Blk w B 25 #[.int .i64 north, .int .i64 cols, .slice ea rows ec, lv, sv, wv]) :
    SeqStopsK Fence.wide n Try.prog 69 #[.pointer (some ⟨B, 0, none⟩)] (fun x : Pl cols rows => #[ptV x.1]) (KB B) (fun ys => ys.map (·.1) = allP cols rows) (fun pre => pre.map (·.1) <+: allP cols rows) (rows * cols) w :=
  fun l J Jx W hW _ _ hY h0 => by
    refine (allPl_in Fence.wide n trivial rfl hn l B cols rows ec north ea lv sv wv hc1 hr1 (fun p W => ∃ p' : List (Pl cols rows), p'.map (·.1) = p ∧ J p' W) (fun p W => ∃ p' : List (Pl cols rows), p'.map (·.1) = p ∧ Jx p' W) ?_ W (hBs.keep hW) ⟨[], rfl, h0⟩).mono ?_
    · rintro pre x W1 h1 h2 ⟨p', rfl, hJ⟩ hlen
      obtain ⟨fn, tmps, assign, body, hy, hR⟩ := hY p' ⟨x, h1, h2⟩ W1 hJ (by simpa using hlen)
      refine ⟨fn, tmps, assign, body, hy, hR.mono ?_⟩
      rintro e W' (⟨he, hj, hk⟩ | ⟨he, hj⟩)
      · exact .inl ⟨he, ⟨_, by simp, hj⟩, hk⟩
      · exact .inr ⟨he, ⟨_, by simp, hj⟩⟩
    · rintro e W' ⟨hv, ⟨ys, rfl, p', hp, hj⟩ | ⟨pre, hp, p', rfl, hj⟩⟩
      · exact ⟨hv, .inl ⟨p', hp, hj⟩⟩
      · exact ⟨hv, .inr ⟨p', hp, hj⟩⟩

theorem allPlaces_any (north : Int) (v1 v2 v3 v4 v5 : Value) (w : World) :
    Calls Try.prog 52 #[.agg #[.int .i64 north, v1, v2, v3, v4, v5]] w fun e w' => e = .returned (.func (.func 69) #[] #[.pointer (some ⟨w.heap.size, 0, none⟩)]) ∧ w' = w.alloc (.cells #[.int .i64 north, v1, v2, v3, v4, v5] 25) := by
  go_enter Try.func52, Try.ntmps52
  go_wp2
  go_ret
  exact ⟨rfl, rfl⟩
end Go.Proofs.Ytdneehbhncekaaa
set_option linter.unusedSimpArgs false
set_option linter.unusedVariables false
namespace Go.Proofs.Ytdneehbhncekaaa
open Go.RowKit

/-- the wide fence, in a round or not -/
abbrev WR (l : Option Nat) : Fence := { Fence.wide with round := l }

def noDefer (ops : Array Oper) : Bool := ops.all fun o => match o.op with | .defer _ => false | _ => true
theorem noDefer_spec {ops : Array Oper} (h : noDefer ops = true) {i : Nat} {o : Oper} (ho : ops[i]? = some o) : ∀ c, o.op ≠ .defer c := by
  intro c hc
  obtain ⟨hi, rfl⟩ := Array.getElem?_eq_some_iff.1 ho
  have := (Array.all_eq_true.1 h) i hi
  rw [hc] at this
  cases this

section
variable {P : Program} {ops : Array Oper} {md : Region.Mode} {l : Option Nat} {n : Nat} {Q : Exit → Act → World → Prop}
theorem rowsIn_wide {row : String} {args : Array Value} {w : World} {R : Value → World → Prop} (h : Rows P row args w R) : RowsIn (WR l) n P row args w R :=
  fun c cs _ => let ⟨v, w', r, s⟩ := h c cs; ⟨v, w', r, stepsIn_wide.2 s⟩
theorem Oper.wpIn_of_wp {o : Oper} {a : Act} {w : World} {K : Act → World → Prop} (hd : ∀ c, o.op ≠ .defer c) (h : o.wp P a w K Q) : o.wpIn (WR l) n P a w K Q := by
  refine ⟨fun _ _ => trivial, ?_⟩
  have e : o.semAt (WR l).round a.eval = execOp a.eval o := by
    cases l with
    | none => exact Oper.semAt_none a.eval o
    | some l => exact Oper.semAt_some l a.eval o hd
  rw [e]
  unfold Oper.wp at h
  generalize (execOp a.eval o).run P w = r at *
  cases r with
  | ok x w' =>
    cases x <;> simp only [Oper.upon, Oper.uponIn] at h ⊢ <;> first
      | exact h
      | exact ⟨(fun hh => by cases hh), (callsIn_wide.2 h : CallsIn Fence.wide _ _ _ _ _ _)⟩
      | exact ⟨(fun hh => by cases hh), rowsIn_wide h⟩
      | exact h.elim
  | halt x w' => cases x <;> simp only [Oper.upon, Oper.uponIn] at h ⊢ <;> exact h

theorem wpAnyIn_of_wpAny (hQ : ¬ LetsOut Q) (hd : noDefer ops = true) : ∀ (fuel : Nat) (listed : Array Bool) (a : Act) (w : World), wpAny P md ops Q fuel listed a w → wpAnyIn (WR l) n P md ops Q fuel listed a w
  | 0, _, _, _, h => h
  | fuel + 1, listed, a, w, h => ⟨h.1, fun i hi => by
    have h1 := wpOp_mono (fun a' w' h' => wpAnyIn_of_wpAny hQ hd fuel _ a' w' h') (h.2 i hi)
    unfold wpOp at h1
    unfold wpOpIn
    split
    · rename_i ho; simpa [ho] using h1
    · rename_i o ho
      simp only [ho] at h1
      split
      · rename_i hw
        simp only [hw, if_true] at h1
        rcases h1 with h1 | ⟨_, h1⟩
        · exact Oper.wpIn_of_wp (noDefer_spec hd ho) h1
        · exact (hQ h1).elim
      · rename_i hw
        simp only [hw] at h1
        exact ⟨fun _ _ => trivial, h1⟩⟩

/-- a region that draws its order, in a round: from whatever gives the plain 'wpAny' -/
theorem wpIn_region_round {id : Nat} {a : Act} {w : World} (hm : P.follows .mixedOrders = true) (hQ : ¬ LetsOut Q) (hd : noDefer ops = true)
    (h : wpAny P .any ops Q ops.size (Array.replicate ops.size false) a w.drew) : (Code.region id ops true).wpIn (WR l) n P Q a w :=
  wpIn_region_any hm (wpAnyIn_of_wpAny hQ hd _ _ _ _ h)

/-- .. the held walk -/
theorem wpIn_region_held {id : Nat} {a : Act} {w : World} {S : World → Prop} {l' : List Oper} (N : Nat) (hN : l'.length = N) (hm : P.follows .mixedOrders = true) (hQ : ¬ LetsOut Q) (hd : noDefer l'.toArray = true) (hS : S w.drew)
    (h : S w.drew → wpAnyH P .any l'.toArray Q S N (Array.replicate N false) a w.drew) : (Code.region id l'.toArray true).wpIn (WR l) n P Q a w :=
  wpIn_region_round hm hQ hd (wpAny_of_held _ _ _ _ (by subst hN; simpa using h hS))

/-- .. the quiet walk in the class of the grown worlds -/
theorem wpIn_region_quiet_GR {id : Nat} {a : Act} {W0 : World} {l' : List Oper} (hm : P.follows .mixedOrders = true) (hQ : ¬ LetsOut Q) (hd : noDefer l'.toArray = true) (hB : Region.lexB .any l'.toArray = true)
    (h : wpQuiet P l'.toArray (fun w' => ∃ x : GW W0, w' = x.w) (fun a' => ∀ w', (∃ x : GW W0, w' = x.w) → Q .normal a' w') l' a) : (Code.region id l'.toArray true).wpIn (WR l) n P Q a W0 := by
  refine wpIn_region_round hm hQ hd ?_
  simp only [Region.lexB, Bool.and_eq_true] at hB
  refine wpAny_of_quiet (C := fun w' => ∃ x : GW W0, w' = x.w) (Q := fun a' => ∀ w', (∃ x : GW W0, w' = x.w) → Q .normal a' w') (fun _ w' hw' h => h w' hw') _ _ _ _ ⟨⟨_, (G.rf W0).d⟩, rfl⟩ ?_
  have := wpAnyQ_lex (C := fun w' => ∃ x : GW W0, w' = x.w) (md := .any) hB.1 l' 0 (Array.replicate l'.length false) a (by simp) (by simpa using hB.2) h
  simpa using this
end
end Go.Proofs.Ytdneehbhncekaaa
set_option linter.unusedSimpArgs false
set_option linter.unusedVariables false
namespace Go.Proofs.Ytdneehbhncekaaa
open Go.RowKit Go.Shelf

/-- what lay in W lies in W', but for the blocks of R -/
structure Fr (R : Nat → Prop) (W W' : World) : Prop where
  os : W'.os = W.os
  tape : W'.tape = W.tape
  output : W'.output = W.output
  size : W.heap.size ≤ W'.heap.size
  block : ∀ i, i < W.heap.size → ¬ R i → W'.heap[i]? = W.heap[i]?
section
variable {R : Nat → Prop} {A B C : World}
theorem Fr.rf (R : Nat → Prop) (A : World) : Fr R A A := ⟨rfl, rfl, rfl, Nat.le_refl _, fun _ _ _ => rfl⟩
theorem Fr.t (h : Fr R A B) (k : Fr R B C) : Fr R A C := ⟨k.os.trans h.os, k.tape.trans h.tape, k.output.trans h.output, Nat.le_trans h.size k.size, fun i hi hr => (k.block i (Nat.lt_of_lt_of_le hi h.size) hr).trans (h.block i hi hr)⟩
theorem G.fr (h : G A B) : Fr R A B := ⟨h.os, h.tape, h.output, h.size, fun i hi _ => h.block i hi⟩
theorem Fr.a (h : Fr R A B) (o : Obj) : Fr R A (B.alloc o) := h.t (G.fr ((G.rf B).a o))
theorem Fr.g (h : Fr R A B) (k : G B C) : Fr R A C := h.t k.fr
theorem Fr.d (h : Fr R A B) : Fr R A B.drew := h.t (G.fr ((G.rf B).d))
theorem Fr.s (h : Fr R A B) {p : Addr} (hp : R p.block ∨ A.heap.size ≤ p.block) (v : Value) : Fr R A (B.setCell p v) :=
  ⟨h.os, h.tape, h.output, by have := h.size; simpa [World.setCell] using this, fun i hi hr => (Below.heap_setCell B p v i (by
    rintro rfl
    rcases hp with hp | hp
    · exact hr hp
    · omega)).trans (h.block i hi hr)⟩
theorem Fr.grown (h : Fr R A B) {row : Option Nat} (hg : B.grownBy C row) (hr : ∀ g, row = some g → R g ∨ A.heap.size ≤ g) : Fr R A C :=
  ⟨hg.os.trans h.os, hg.tape.trans h.tape, hg.output.trans h.output, Nat.le_trans h.size hg.size, fun i hi hn => (hg.block i (Nat.lt_of_lt_of_le hi h.size) (fun e => by
    rcases hr i e.symm with h' | h'
    · exact hn h'
    · omega)).trans (h.block i hi hn)⟩
theorem Fr.mono {R' : Nat → Prop} (h : Fr R A B) (hr : ∀ i, i < A.heap.size → R i → R' i) : Fr R' A B := ⟨h.os, h.tape, h.output, h.size, fun i hi hn => h.block i hi (fun hh => hn (hr i hi hh))⟩
theorem Fr.toG (h : Fr R A B) (hr : ∀ i, i < A.heap.size → ¬ R i) : G A B := ⟨h.os, h.tape, h.output, h.size, fun i hi => h.block i hi (hr i hi)⟩
theorem Fr.blk {g : Nat} {t : TypeId} {cs : Array Value} (h : Fr R A B) (k : Blk A g t cs) (hg : ¬ R g) : Blk B g t cs := (h.block g k.lt hg).trans k
theorem Fr.kb {b : Nat} (h : Fr R A B) (hb : b < A.heap.size) (hr : ¬ R b) : KB b A B := h.block b hb hr
theorem Fr.keeps (h : Fr R A B) (hr : ∀ i, R i → i < A.heap.size → ∃ c t f, A.heap[i]? = some (.cells c t f)) (b : Nat) : KeepsFrom b A B :=
  ⟨h.size, fun k o _ hk ho => by
    have hlt := (Array.getElem?_eq_some_iff.1 hk).1
    rw [h.block k hlt (fun hR => by
      obtain ⟨c, t, f, e⟩ := hr k hR hlt
      rw [e] at hk; cases hk; cases ho)]
    exact hk⟩
end

theorem blk_own {β : Type} (g : Nat) (t : TypeId) (f : β → Array Value) : Own (fun s W => Blk W g t (f s)) := fun _ X _ row hs hg hrow =>
  hs.grown hg (fun e' => by obtain ⟨o, ho, hc⟩ := hrow g e'.symm; rw [show X.heap[g]? = _ from hs] at ho; cases ho; cases hc)

variable {F : Fence} {n : Nat} {P : Program}
/-- a range over a function whose one loop variable is boxed: slot tb holds the box's address -/
theorem rangeFunc_box {α : Type} {g : Operand} {tv : Tmp} {assign body : Code} {Q : Exit → Act → World → Prop} {a : Act} {w : World}
    (hro : F.round = none) (h1 : 1 ≤ n) {gf : Nat} {lb : Array Value} (hg : a.eval g = .func (.func gf) #[] lb) (hFg : F.fn gf) (eg : ∀ args w, (callFunc gf args).run P w = .ok (.enter gf args) w)
    {ev : α → Value} {B : Nat} {S Sp : List α → Prop} {N : Nat} {w0 : World} (hseq : SeqStopsK F (n - 1) P gf lb (fun x => #[ev x]) (KB B) S Sp N w0)
    (hB : B < w.heap.size) (hb0 : Below w0.heap.size w0 w)
    (I : List α → World → Prop) (Ix : Code → List α → World → Prop) (hI : OwnFrom w.heap.size I) (hIx : ∀ c, OwnFrom w.heap.size (Ix c)) (hIs : ∀ pre W, I pre W → w.heap.size ≤ W.heap.size) (h0 : I [] w)
    (tb : Tmp) (tt : TypeId) (bx : α → Array Value)
    (hassign : ∀ (l : Nat) (x : α) (W : World) (K : Act → World → Prop), K { tmps := (a.tmps.setIfInBounds tv (ev x)).setIfInBounds tb (.pointer (some ⟨W.heap.size, 0, none⟩)), defers := [] } (W.alloc (.cells (bx x) tt)) →
      assign.wpIn (F.inRound l) (n - 1 - 1) P (Exit.then K (fun _ _ _ => False)) { tmps := a.tmps.setIfInBounds tv (ev x), defers := [] } W)
    (hbody : ∀ (l : Nat) (pre : List α) (x : α) (Bp : Nat) (W : World), w.heap.size ≤ l → (∃ r, W.heap[l]? = some (.loop r)) → I pre W → w.heap.size ≤ Bp → Blk W Bp tt (bx x) → pre.length < N →
      body.wpIn (F.inRound l) (n - 1 - 1) P (ownPostG w.heap.size (KB B) I Ix (pre ++ [x]) W) { tmps := (a.tmps.setIfInBounds tv (ev x)).setIfInBounds tb (.pointer (some ⟨Bp, 0, none⟩)), defers := [] } W)
    (hdone : ∀ (D : Nat) (xs : List α) (W : World), w.heap.size ≤ D → S xs → I xs W → W.heap[D]? = some (.deferred (some [])) → Q .normal { a with defers := { target := .collected D, args := #[] } :: a.defers } W)
    (hstop : ∀ (D : Nat) (c : Code) (pre : List α) (W : World), w.heap.size ≤ D → Sp pre → Ix c pre W → W.heap[D]? = some (.deferred (some [])) → c.wpIn F n P Q { a with defers := { target := .collected D, args := #[] } :: a.defers } W) :
    (Code.rangeFunc g #[tv] assign body).wpIn F n P Q a w := by
  refine wpIn_rangeFunc_ownH hro h1 hg hFg eg hseq (fun h k => KB.t h k) (KB.b hB) hb0 (fun _ => rfl) I Ix hI hIx h0
    (fun x a' W => ∃ Bp, w.heap.size ≤ Bp ∧ Blk W Bp tt (bx x) ∧ a' = { tmps := (a.tmps.setIfInBounds tv (ev x)).setIfInBounds tb (.pointer (some ⟨Bp, 0, none⟩)), defers := [] })
    ?_ ?_ ?_ hdone hstop
  · rintro x a' _ X Y row ⟨Bp, h1, h2, h3⟩ hg' hr
    exact ⟨Bp, h1, blk_own Bp tt (fun _ : Unit => bx x) () X Y row h2 hg' (fun r e => (hr r e).2), h3⟩
  · intro l pre x W K hi hK
    have e : ((#[tv] : Array Tmp).zip #[ev x]).foldl (fun t (p, v) => t.setIfInBounds p v) a.tmps = a.tmps.setIfInBounds tv (ev x) := by simp
    rw [e]
    refine hassign l x W K (hK _ _ ((KeepsOthers.alloc W _).from _) ?_ (hI.alloc _ hi) ⟨W.heap.size, hIs _ _ hi, Blk.new _ _ _, rfl⟩)
    exact Below.heap_alloc W _ B (Nat.lt_of_lt_of_le hB (hIs _ _ hi))
  · rintro l pre x a' W hl hr hi ⟨Bp, h1, h2, rfl⟩ hN
    exact hbody l pre x Bp W hl hr hi h1 h2 hN
end Go.Proofs.Ytdneehbhncekaaa
set_option linter.unusedSimpArgs false
set_option linter.unusedVariables false
namespace Go.Proofs.Ytdneehbhncekaaa
open Go.RowKit

section
variable {P : Program} {ops : Array Oper} {md : Region.Mode} {Q : Exit → Act → World → Prop} {S : World → Prop} {z : Nat}
/-- whatever order is picked; S holds behind every operation but number z, which waits for all that is taken first -/
def wpAnyZ (P : Program) (md : Region.Mode) (ops : Array Oper) (Q : Exit → Act → World → Prop) (S : World → Prop) (z : Nat) : Nat → Array Bool → Act → World → Prop
  | 0, l, a, w => Region.ready md ops l = [] ∧ Q .normal a w
  | fuel + 1, l, a, w => (Region.ready md ops l = [] → Q .normal a w) ∧
    ∀ i ∈ Region.ready md ops l, wpOp P ops Q i (fun a' w' => (i ≠ z → S w') ∧ wpAnyZ P md ops Q S z fuel (l.setIfInBounds i true) a' w') a w

theorem wpAny_of_Z : ∀ (fuel : Nat) (l : Array Bool) (a : Act) (w : World), wpAnyZ P md ops Q S z fuel l a w → wpAny P md ops Q fuel l a w
  | 0, _, _, _, h => h
  | fuel + 1, _, _, _, h => ⟨h.1, fun i hi => wpOp_mono (fun _ _ h' => wpAny_of_Z fuel _ _ _ h'.2) (h.2 i hi)⟩

/-- operation z waits for operation i, at once or by others -/
def waitsT (md : Region.Mode) (ops : Array Oper) : Nat → Nat → Nat → Bool
  | 0, _, _ => false
  | f + 1, z, i =>
    match ops[z]? with
    | some o => o.after.any fun e => Region.binds md e && (e.on == i || waitsT md ops f e.on i)
    | none => false
/-- whoever is listed, those that it waits for are -/
def closedB (md : Region.Mode) (ops : Array Oper) (l : Array Bool) : Bool :=
  (List.range ops.size).all fun k => !l.getD k false || ((ops[k]?).map fun o => o.after.all fun e => !Region.binds md e || l.getD e.on false).getD true
def Closed (md : Region.Mode) (ops : Array Oper) (l : Array Bool) : Prop := ∀ k o, ops[k]? = some o → l.getD k false = true → ∀ e ∈ o.after, Region.binds md e = true → l.getD e.on false = true
theorem closed_of_B {l : Array Bool} (h : closedB md ops l = true) : Closed md ops l := by
  intro k o ho hk e he hb
  have hlt := (Array.getElem?_eq_some_iff.1 ho).1
  have h1 := (List.all_eq_true.1 h) k (List.mem_range.2 hlt)
  rw [hk, ho] at h1
  simp only [Bool.not_true, Bool.false_or, Option.map_some, Option.getD_some, Array.all_eq_true] at h1
  obtain ⟨q, hq, rfl⟩ := Array.getElem_of_mem he
  have h2 := h1 q hq
  rw [hb] at h2
  simpa using h2
theorem Closed.set {l : Array Bool} {j : Nat} (h : Closed md ops l) (hj : j ∈ Region.ready md ops l) : Closed md ops (l.setIfInBounds j true) := by
  intro k o ho hk e he hb
  by_cases hkj : j = k
  · subst hkj
    obtain ⟨_, o', ho', hall⟩ := mem_ready.1 hj
    rw [ho] at ho'
    cases ho'
    exact getD_set_true (hall e he hb)
  · rw [getD_set_ne false hkj] at hk
    exact getD_set_true (h k o ho hk e he hb)
theorem Closed.waits {l : Array Bool} (h : Closed md ops l) : ∀ (f z i : Nat) (o : Oper), ops[z]? = some o → (∀ e ∈ o.after, Region.binds md e = true → l.getD e.on false = true) → waitsT md ops f z i = true → l.getD i false = true
  | 0, _, _, _, _, _, hw => by cases hw
  | f + 1, z, i, o, ho, hall, hw => by
    unfold waitsT at hw
    rw [ho] at hw
    simp only [Array.any_eq_true, Bool.and_eq_true, Bool.or_eq_true, beq_iff_eq] at hw
    obtain ⟨k, hk, hb, hc⟩ := hw
    have h1 := hall _ (Array.getElem_mem hk) hb
    rcases hc with rfl | hc
    · exact h1
    · cases hq : ops[(o.after[k]).on]? with
      | none => unfold waitsT at hc; cases f <;> simp [hq] at hc
      | some o' => exact Closed.waits h f _ i o' hq (h _ o' hq h1) hc

theorem not_ready_of_waits {i : Nat} {l : Array Bool} (hcl : Closed md ops l) (hw : waitsT md ops 40 z i = true) (hi : i ∈ Region.ready md ops l) : z ∉ Region.ready md ops l := by
  intro hz
  obtain ⟨_, o, ho, hall⟩ := mem_ready.1 hz
  obtain ⟨hun, _, _, _⟩ := mem_ready.1 hi
  have h1 := hcl.waits 40 z i o ho hall hw
  cases hq : l[i]? <;> simp [hq] at hun h1
  rw [hun] at h1
  cases h1

theorem wpAnyZ_first {i : Nat} {oi : Oper} {v : Value} (hi : ops[i]? = some oi) (hsel : Region.noSelect ops = true) (hz : i ≠ z) (hw : waitsT md ops 40 z i = true)
    (hQ : ∀ c a w, Q (.panic c) (a.put oi.dst v) w → Q (.panic c) a w) :
    ∀ (fuel : Nat) (l : Array Bool) (a : Act) (w : World), Closed md ops l → (∀ j oj, ops[j]? = some oj → j ≠ i → l.getD j true = false → (∀ e ∈ oj.after, Region.binds md e = true → e.on ≠ i) → oi.apart ops oj = true) →
      i ∈ Region.ready md ops l → YieldsIf P ops S oi v a → S w → wpAnyZ P md ops Q S z fuel (l.setIfInBounds i true) (a.put oi.dst v) w → wpAnyZ P md ops Q S z (fuel + 1) l a w
  | fuel, l, a, w, hcl, hfree, hr, hy, hS, H => by
    refine ⟨fun h => absurd (h ▸ hr) (by simp), fun j hj => ?_⟩
    by_cases hji : j = i
    · subst hji
      exact hy.wpOp hi hS ⟨fun _ => hS, H⟩
    have hj2 := ready_mono hj hji
    cases fuel with
    | zero => rw [H.1] at hj2; cases hj2
    | succ fuel =>
      have hjz : j ≠ z := fun e => not_ready_of_waits hcl hw hr (e ▸ hj)
      obtain ⟨hjun, oj, hoj, hall⟩ := mem_ready.1 hj
      have hno : ∀ e ∈ oj.after, Region.binds md e = true → e.on ≠ i := fun e he hb heq => by
        have h1 := hall e he hb
        have h0 := (mem_ready.1 hr).1
        rw [heq] at h1
        cases hq : l[i]? <;> simp [hq] at h0 h1
        rw [h0] at h1
        cases h1
      have h2 := wpOp_putIf hoj (hfree j oj hoj hji hjun hno) (fun cs b => Region.noSelect_spec hsel i oi cs b hi) (fun cs b => Region.noSelect_spec hsel j oj cs b hoj) hQ hy (H.2 j hj2)
      refine wpOp_mono (fun a' w' h3 => ⟨fun _ => h3.2.1 hjz, ?_⟩) h2
      refine wpAnyZ_first hi hsel hz hw hQ fuel _ a' w' (hcl.set hj) (fun k ok hk hki hun hn => hfree k ok hk hki ?_ hn) (ready_mono hr (Ne.symm hji)) h3.1 (h3.2.1 hjz) ?_
      · by_cases hjk : j = k
        · exact hjk ▸ hjun
        · rwa [getD_set_ne true hjk] at hun
      · rw [Array.setIfInBounds_comm _ _ hji]
        exact h3.2.2

theorem wpAnyZ_take {i : Nat} {oi : Oper} {v : Value} {fuel : Nat} {l : Array Bool} {a : Act} {w : World} (hi : ops[i]? = some oi) (hs : Region.noSelect ops = true) (hf : Region.free md ops l i = true)
    (hr : (Region.ready md ops l).contains i = true) (hw : (decide (i ≠ z) && waitsT md ops 40 z i && closedB md ops l) = true) (hQ : ∀ c a w, Q (.panic c) (a.put oi.dst v) w → Q (.panic c) a w) (hy : YieldsIf P ops S oi v a) (hS : S w)
    (h : wpAnyZ P md ops Q S z fuel (l.setIfInBounds i true) (a.put oi.dst v) w) : wpAnyZ P md ops Q S z (fuel + 1) l a w := by
  simp only [Bool.and_eq_true, decide_eq_true_eq] at hw
  exact wpAnyZ_first hi hs hw.1.1 hw.1.2 hQ fuel l a w (closed_of_B hw.2) (Region.free_spec hi hf) (by simpa using hr) hy hS h

/-- one operation alone may come up -/
theorem wpAnyZ_one {i : Nat} {o : Oper} {fuel : Nat} {l : Array Bool} {a : Act} {w : World} (hr : Region.ready md ops l = [i]) (ho : ops[i]? = some o)
    (h : ∀ K' : Act → World → Prop, Shut (∀ a w, (i ≠ z → S w) → ((i ≠ z → S w) → wpAnyZ P md ops Q S z fuel (l.setIfInBounds i true) a w) → K' a w) → if Region.wanted o (yielded ops a.tmps) = true then Oper.wp P o a w K' Q else K' (a.put o.dst undef) w) :
    wpAnyZ P md ops Q S z (fuel + 1) l a w := by
  refine ⟨fun h0 => (by rw [hr] at h0; cases h0), fun j hj => ?_⟩
  rw [hr] at hj
  obtain rfl : j = i := by simpa using hj
  exact wpOp_step ho (fun K' hK => h K' (fun a w hS hW => hK a w ⟨hS, hW hS⟩))

theorem wpAnyZ_two {i k : Nat} {o o' : Oper} {fuel : Nat} {l : Array Bool} {a : Act} {w : World} (hr : Region.ready md ops l = [i, k]) (ho : ops[i]? = some o) (ho' : ops[k]? = some o')
    (h : ∀ K' : Act → World → Prop, Shut (∀ a w, (i ≠ z → S w) → ((i ≠ z → S w) → wpAnyZ P md ops Q S z fuel (l.setIfInBounds i true) a w) → K' a w) → if Region.wanted o (yielded ops a.tmps) = true then Oper.wp P o a w K' Q else K' (a.put o.dst undef) w)
    (h' : ∀ K' : Act → World → Prop, Shut (∀ a w, (k ≠ z → S w) → ((k ≠ z → S w) → wpAnyZ P md ops Q S z fuel (l.setIfInBounds k true) a w) → K' a w) → if Region.wanted o' (yielded ops a.tmps) = true then Oper.wp P o' a w K' Q else K' (a.put o'.dst undef) w) :
    wpAnyZ P md ops Q S z (fuel + 1) l a w := by
  refine ⟨fun h0 => (by rw [hr] at h0; cases h0), fun j hj => ?_⟩
  rw [hr] at hj
  simp only [List.mem_cons, List.not_mem_nil, or_false] at hj
  rcases hj with rfl | rfl
  · exact wpOp_step ho (fun K' hK => h K' (fun a w hS hW => hK a w ⟨hS, hW hS⟩))
  · exact wpOp_step ho' (fun K' hK => h' K' (fun a w hS hW => hK a w ⟨hS, hW hS⟩))

/-- Q, but False at a panic -/
def NoP (Q : Exit → Act → World → Prop) : Exit → Act → World → Prop
  | .panic _, _, _ => False
  | e, a, w => Q e a w
theorem NoP.imp : ∀ (e : Exit) (a : Act) (w : World), NoP Q e a w → Q e a w := fun e a w h => by
  cases e <;> first | exact h | exact (h : False).elim
theorem NoP.lets (h : ¬ LetsOut Q) : ¬ LetsOut (NoP Q) := fun ⟨a, w, q⟩ => h ⟨a, w, q⟩
theorem wpAnyZ_done {l : Array Bool} {a : Act} {w : World} (hr : Region.ready md ops l = []) (h : Q .normal a w) : ∀ fuel, wpAnyZ P md ops (NoP Q) S z fuel l a w
  | 0 => ⟨hr, h⟩
  | _ + 1 => ⟨fun _ => h, by rw [hr]; simp⟩
end

theorem wpIn_region_Z {P : Program} {Q : Exit → Act → World → Prop} {l : Option Nat} {n : Nat} {id : Nat} {a : Act} {w : World} {S : World → Prop} {l' : List Oper} (z N : Nat) (hN : l'.length = N) (hm : P.follows .mixedOrders = true) (hQ : ¬ LetsOut Q) (hd : noDefer l'.toArray = true) (hS : S w.drew)
    (h : S w.drew → wpAnyZ P .any l'.toArray (NoP Q) S z N (Array.replicate N false) a w.drew) : (Code.region id l'.toArray true).wpIn (WR l) n P Q a w :=
  Code.wpIn_mono NoP.imp (wpIn_region_round hm (NoP.lets hQ) hd (wpAny_of_Z _ _ _ _ (by subst hN; simpa using h hS)))
theorem wp_region_Z {P : Program} {Q : Exit → Act → World → Prop} {id : Nat} {a : Act} {w : World} {S : World → Prop} {l' : List Oper} (z N : Nat) (hN : l'.length = N) (hm : P.follows .mixedOrders = true) (hS : S w.drew)
    (h : S w.drew → wpAnyZ P .any l'.toArray (NoP Q) S z N (Array.replicate N false) a w.drew) : (Code.region id l'.toArray true).wp P Q a w :=
  Code.wp_mono NoP.imp (wp_region_any hm (wpAny_of_Z _ _ _ _ (by subst hN; simpa using h hS)))
end Go.Proofs.Ytdneehbhncekaaa
set_option linter.unusedSimpArgs false
set_option linter.unusedVariables false
namespace Go.Proofs.Ytdneehbhncekaaa
open Go.RowKit

section
variable {P : Program} {ops : Array Oper} {md : Region.Mode} {Q : Exit → Act → World → Prop} {S : World → Prop} {z : Nat}
/-- whatever order is picked; S holds as long as operation z is not listed -/
def wpAnyY (P : Program) (md : Region.Mode) (ops : Array Oper) (Q : Exit → Act → World → Prop) (S : World → Prop) (z : Nat) : Nat → Array Bool → Act → World → Prop
  | 0, l, a, w => Region.ready md ops l = [] ∧ Q .normal a w
  | fuel + 1, l, a, w => (Region.ready md ops l = [] → Q .normal a w) ∧
    ∀ i ∈ Region.ready md ops l, wpOp P ops Q i (fun a' w' => ((l.setIfInBounds i true).getD z false = false → S w') ∧ wpAnyY P md ops Q S z fuel (l.setIfInBounds i true) a' w') a w

theorem wpAny_of_Y : ∀ (fuel : Nat) (l : Array Bool) (a : Act) (w : World), wpAnyY P md ops Q S z fuel l a w → wpAny P md ops Q fuel l a w
  | 0, _, _, _, h => h
  | fuel + 1, _, _, _, h => ⟨h.1, fun i hi => wpOp_mono (fun _ _ h' => wpAny_of_Y fuel _ _ _ h'.2) (h.2 i hi)⟩

theorem wpAnyY_first {i : Nat} {oi : Oper} {v : Value} (hi : ops[i]? = some oi) (hsel : Region.noSelect ops = true) (hz : i ≠ z) (hw : waitsT md ops 40 z i = true)
    (hQ : ∀ c a w, Q (.panic c) (a.put oi.dst v) w → Q (.panic c) a w) :
    ∀ (fuel : Nat) (l : Array Bool) (a : Act) (w : World), Closed md ops l → l.getD z false = false → (∀ j oj, ops[j]? = some oj → j ≠ i → l.getD j true = false → (∀ e ∈ oj.after, Region.binds md e = true → e.on ≠ i) → oi.apart ops oj = true) →
      i ∈ Region.ready md ops l → YieldsIf P ops S oi v a → S w → wpAnyY P md ops Q S z fuel (l.setIfInBounds i true) (a.put oi.dst v) w → wpAnyY P md ops Q S z (fuel + 1) l a w
  | fuel, l, a, w, hcl, hlz, hfree, hr, hy, hS, H => by
    refine ⟨fun h => absurd (h ▸ hr) (by simp), fun j hj => ?_⟩
    by_cases hji : j = i
    · subst hji
      exact hy.wpOp hi hS ⟨fun _ => hS, H⟩
    have hj2 := ready_mono hj hji
    cases fuel with
    | zero => rw [H.1] at hj2; cases hj2
    | succ fuel =>
      have hjz : j ≠ z := fun e => not_ready_of_waits hcl hw hr (e ▸ hj)
      have hlz' : (l.setIfInBounds j true).getD z false = false := by rw [getD_set_ne false hjz]; exact hlz
      obtain ⟨hjun, oj, hoj, hall⟩ := mem_ready.1 hj
      have hno : ∀ e ∈ oj.after, Region.binds md e = true → e.on ≠ i := fun e he hb heq => by
        have h1 := hall e he hb
        have h0 := (mem_ready.1 hr).1
        rw [heq] at h1
        cases hq : l[i]? <;> simp [hq] at h0 h1
        rw [h0] at h1
        cases h1
      have h2 := wpOp_putIf hoj (hfree j oj hoj hji hjun hno) (fun cs b => Region.noSelect_spec hsel i oi cs b hi) (fun cs b => Region.noSelect_spec hsel j oj cs b hoj) hQ hy (H.2 j hj2)
      have hlz2 : ((l.setIfInBounds i true).setIfInBounds j true).getD z false = false := by rw [getD_set_ne false hjz, getD_set_ne false hz]; exact hlz
      refine wpOp_mono (fun a' w' h3 => ⟨fun _ => h3.2.1 hlz2, ?_⟩) h2
      refine wpAnyY_first hi hsel hz hw hQ fuel _ a' w' (hcl.set hj) hlz' (fun k ok hk hki hun hn => hfree k ok hk hki ?_ hn) (ready_mono hr (Ne.symm hji)) h3.1 (h3.2.1 hlz2) ?_
      · by_cases hjk : j = k
        · exact hjk ▸ hjun
        · rwa [getD_set_ne true hjk] at hun
      · rw [Array.setIfInBounds_comm _ _ hji]
        exact h3.2.2

/-- .. at once, or by others: asked in this order (the kernel is quick at the first) -/
def waitsD (md : Region.Mode) (ops : Array Oper) (z i : Nat) : Bool :=
  (match ops[z]? with | some o => o.after.any fun e => Region.binds md e && e.on == i | none => false) || waitsT md ops 40 z i
theorem waitsD_T {i : Nat} (h : waitsD md ops z i = true) : waitsT md ops 40 z i = true := by
  unfold waitsD at h
  rw [Bool.or_eq_true] at h
  rcases h with h | h
  · unfold waitsT
    cases ho : ops[z]? with
    | none => rw [ho] at h; cases h
    | some o =>
      rw [ho] at h
      simp only [Array.any_eq_true, Bool.and_eq_true, beq_iff_eq] at h ⊢
      obtain ⟨k, hk, hb, he⟩ := h
      exact ⟨k, hk, hb, by simp [he]⟩
  · exact h
theorem wpAnyY_take {i : Nat} {oi : Oper} {v : Value} {fuel : Nat} {l : Array Bool} {a : Act} {w : World} (hi : ops[i]? = some oi) (hs : Region.noSelect ops = true) (hf : Region.free md ops l i = true)
    (hr : (Region.ready md ops l).contains i = true) (hw : (decide (i ≠ z) && (waitsD md ops z i && (closedB md ops l && !l.getD z false))) = true) (hQ : ∀ c a w, Q (.panic c) (a.put oi.dst v) w → Q (.panic c) a w) (hy : YieldsIf P ops S oi v a) (hS : S w)
    (h : wpAnyY P md ops Q S z fuel (l.setIfInBounds i true) (a.put oi.dst v) w) : wpAnyY P md ops Q S z (fuel + 1) l a w := by
  simp only [Bool.and_eq_true, decide_eq_true_eq, Bool.not_eq_true'] at hw
  exact wpAnyY_first hi hs hw.1 (waitsD_T hw.2.1) hQ fuel l a w (closed_of_B hw.2.2.1) hw.2.2.2 (Region.free_spec hi hf) (by simpa using hr) hy hS h

/-- one operation alone may come up, and z is listed or is this one -/
theorem wpAnyY_one {i : Nat} {o : Oper} {fuel : Nat} {l : Array Bool} {a : Act} {w : World} (hr : Region.ready md ops l = [i]) (ho : ops[i]? = some o) (hz : (l.setIfInBounds i true).getD z false = true)
    (h : ∀ K' : Act → World → Prop, Shut (∀ a w, wpAnyY P md ops Q S z fuel (l.setIfInBounds i true) a w → K' a w) → if Region.wanted o (yielded ops a.tmps) = true then Oper.wp P o a w K' Q else K' (a.put o.dst undef) w) :
    wpAnyY P md ops Q S z (fuel + 1) l a w := by
  refine ⟨fun h0 => (by rw [hr] at h0; cases h0), fun j hj => ?_⟩
  rw [hr] at hj
  obtain rfl : j = i := by simpa using hj
  exact wpOp_step ho (fun K' hK => h K' (fun a w hW => hK a w ⟨fun e => (by rw [hz] at e; cases e), hW⟩))
/-- .. where S is told -/
theorem wpAnyY_oneS {i : Nat} {o : Oper} {fuel : Nat} {l : Array Bool} {a : Act} {w : World} (hr : Region.ready md ops l = [i]) (ho : ops[i]? = some o)
    (h : ∀ K' : Act → World → Prop, Shut (∀ a w, S w → (S w → wpAnyY P md ops Q S z fuel (l.setIfInBounds i true) a w) → K' a w) → if Region.wanted o (yielded ops a.tmps) = true then Oper.wp P o a w K' Q else K' (a.put o.dst undef) w) :
    wpAnyY P md ops Q S z (fuel + 1) l a w := by
  refine ⟨fun h0 => (by rw [hr] at h0; cases h0), fun j hj => ?_⟩
  rw [hr] at hj
  obtain rfl : j = i := by simpa using hj
  exact wpOp_step ho (fun K' hK => h K' (fun a w hS hW => hK a w ⟨fun _ => hS, hW hS⟩))
end
theorem wpAnyY_done {P : Program} {ops : Array Oper} {md : Region.Mode} {Q : Exit → Act → World → Prop} {S : World → Prop} {z : Nat} {l : Array Bool} {a : Act} {w : World} (hr : Region.ready md ops l = []) (h : Q .normal a w) : ∀ fuel, wpAnyY P md ops (NoP Q) S z fuel l a w
  | 0 => ⟨hr, h⟩
  | _ + 1 => ⟨fun _ => h, by rw [hr]; simp⟩
theorem wpIn_region_Y {P : Program} {Q : Exit → Act → World → Prop} {l : Option Nat} {n : Nat} {id : Nat} {a : Act} {w : World} {S : World → Prop} {l' : List Oper} (z N : Nat) (hN : l'.length = N) (hm : P.follows .mixedOrders = true) (hQ : ¬ LetsOut Q) (hd : noDefer l'.toArray = true) (hS : S w.drew)
    (h : S w.drew → wpAnyY P .any l'.toArray (NoP Q) S z N (Array.replicate N false) a w.drew) : (Code.region id l'.toArray true).wpIn (WR l) n P Q a w :=
  Code.wpIn_mono NoP.imp (wpIn_region_round hm (NoP.lets hQ) hd (wpAny_of_Y _ _ _ _ (by subst hN; simpa using h hS)))
theorem wp_region_Y {P : Program} {Q : Exit → Act → World → Prop} {id : Nat} {a : Act} {w : World} {S : World → Prop} {l' : List Oper} (z N : Nat) (hN : l'.length = N) (hm : P.follows .mixedOrders = true) (hS : S w.drew)
    (h : S w.drew → wpAnyY P .any l'.toArray (NoP Q) S z N (Array.replicate N false) a w.drew) : (Code.region id l'.toArray true).wp P Q a w :=
  Code.wp_mono NoP.imp (wp_region_any hm (wpAny_of_Y _ _ _ _ (by subst hN; simpa using h hS)))
end Go.Proofs.Ytdneehbhncekaaa
set_option linter.unusedSimpArgs false
set_option linter.unusedVariables false
namespace Go.Proofs.Ytdneehbhncekaaa
open Go.RowKit Go.Shelf
attribute [local go_sem] Oper.semAt_some

theorem wide_fn (f : Nat) : Fence.wide.fn f = True := rfl
theorem wide_dep : Fence.wide.depth = none := rfl
theorem wideR_fn (l f : Nat) : (Fence.wide.inRound l).fn f = True := rfl
theorem wideR_dep (l : Nat) : (Fence.wide.inRound l).depth = none := rfl
attribute [local go_sem] wide_fn wide_dep wideR_fn wideR_dep ptV

structure Sp where
  x : Nat
  y : Nat
  more : Nat
instance : Inhabited Sp := ⟨⟨0, 0, 0⟩⟩
def spotCells (l : List Sp) : List Value := l.flatMap fun s => [.int .i64 s.x, .int .i64 s.y, .int .i64 s.more]
def oc (north cols : Int) (E : Value) (lofts : Int) (S : Value) (wrong : Int) (sum : Nat) (sl : Nat → Value) : Array Value :=
  #[.int .i64 north, .int .i64 cols, E, .int .i64 lofts, S, .int .i64 wrong, .int .i64 sum, sl 0, sl 1, sl 2, sl 3, sl 4, sl 5, sl 6, sl 7]
def upd {α : Type} (f : Nat → α) (k : Nat) (v : α) : Nat → α := fun j => if j = k then v else f j

theorem oc_get {north cols lofts wrong : Int} {E S : Value} {sum : Nat} {sl : Nat → Value} {k : Nat} (hk : k < 8) : (oc north cols E lofts S wrong sum sl)[7 + k]? = some (sl k) := by
  match k, hk with
  | 0, _ => rfl
  | 1, _ => rfl
  | 2, _ => rfl
  | 3, _ => rfl
  | 4, _ => rfl
  | 5, _ => rfl
  | 6, _ => rfl
  | 7, _ => rfl
theorem oc_set {north cols lofts wrong : Int} {E S : Value} {sum : Nat} {sl : Nat → Value} {k : Nat} (hk : k < 8) (v : Value) : (oc north cols E lofts S wrong sum sl).setIfInBounds (7 + k) v = oc north cols E lofts S wrong sum (upd sl k v) := by
  match k, hk with
  | 0, _ => rfl
  | 1, _ => rfl
  | 2, _ => rfl
  | 3, _ => rfl
  | 4, _ => rfl
  | 5, _ => rfl
  | 6, _ => rfl
  | 7, _ => rfl
theorem oc_sum {north cols lofts wrong : Int} {E S : Value} {sum : Nat} {sl : Nat → Value} (v : Nat) : (oc north cols E lofts S wrong sum sl).setIfInBounds 6 (.int .i64 v) = oc north cols E lofts S wrong v sl := rfl

/-- a slice of spots, somewhere -/
def SpotsAt (W : World) (v : Value) (l : List Sp) : Prop := ∃ g cap, v = .slice (some ⟨g, 0, none⟩) l.length cap ∧ (∃ cur, Blk W g 110 cur) ∧
  ∀ i, i < l.length → W.cell? ⟨g, i * 3, none⟩ = some (.int .i64 (l.getD i default).x) ∧ W.cell? ⟨g, i * 3 + 1, none⟩ = some (.int .i64 (l.getD i default).y) ∧ W.cell? ⟨g, i * 3 + 2, none⟩ = some (.int .i64 (l.getD i default).more)
theorem SpotsAt.keep {W W' : World} {v : Value} {l : List Sp} (h : SpotsAt W v l) (hk : ∀ g, g < W.heap.size → v.ownBlock = some g → W'.heap[g]? = W.heap[g]?) (_ : W.heap.size ≤ W'.heap.size) : SpotsAt W' v l := by
  obtain ⟨g, cap, rfl, ⟨cur, hg⟩, hc⟩ := h
  have e := hk g hg.lt rfl
  have c : ∀ o, W'.cell? ⟨g, o, none⟩ = W.cell? ⟨g, o, none⟩ := fun o => World.cell?_of_block (w := W) (w' := W') (a := ⟨g, o, none⟩) e
  exact ⟨g, cap, rfl, ⟨cur, e.trans hg⟩, fun i hi => by rw [c, c, c]; exact hc i hi⟩

section
variable (north : Int) (cols : Nat) (east : List Int) (svs : List Sv)
def cost (loft : Nat) (p : Nat × Nat) : Nat := wrongN north east svs loft p.1 p.2
def minC (init : Nat) (l : List Nat) : Nat := l.foldl min init
def lowC (loft : Nat) (pl : List (Nat × Nat)) : Nat := minC svs.length (pl.map (cost north east svs loft))
def rawSpots (loft : Nat) (pl : List (Nat × Nat)) : List Sp := pl.map fun p => ⟨p.1, p.2, cost north east svs loft p⟩
def spotsOf (loft : Nat) : List Sp := (allP cols east.length).map fun p => ⟨p.1, p.2, cost north east svs loft p - lowC north east svs loft (allP cols east.length)⟩
def fewSum (k : Nat) : Nat := ((List.range k).map fun j => lowC north east svs j (allP cols east.length)).sum
end

theorem lowC_snoc (north : Int) (east : List Int) (svs : List Sv) (loft : Nat) (l : List (Nat × Nat)) (p : Nat × Nat) : lowC north east svs loft (l ++ [p]) = min (lowC north east svs loft l) (cost north east svs loft p) := by
  simp [lowC, minC, List.foldl_append]

theorem foldl_min_le (l : List Nat) : ∀ (a : Nat), l.foldl min a ≤ a ∧ ∀ x ∈ l, l.foldl min a ≤ x := by
  induction l with
  | nil => intro a; simp
  | cons b l ih =>
    intro a
    have h := ih (min a b)
    simp only [List.foldl_cons]
    refine ⟨by have := h.1; omega, fun x hx => ?_⟩
    rcases List.mem_cons.1 hx with rfl | hx
    · have := h.1; omega
    · exact h.2 x hx
theorem lowC_le (north : Int) (east : List Int) (svs : List Sv) (k : Nat) (pl : List (Nat × Nat)) (hl2 : svs.length ≤ 16) : lowC north east svs k pl ≤ 16 := by
  have := (foldl_min_le (pl.map (cost north east svs k)) svs.length).1
  unfold lowC minC
  omega
theorem fewSum_le (north : Int) (cols : Nat) (east : List Int) (svs : List Sv) (k : Nat) (hl2 : svs.length ≤ 16) : fewSum north cols east svs k ≤ k * 16 := by
  induction k with
  | zero => simp [fewSum]
  | succ k ih =>
    have e : fewSum north cols east svs (k + 1) = fewSum north cols east svs k + lowC north east svs k (allP cols east.length) := by simp [fewSum, List.range_succ]
    have := lowC_le north east svs k (allP cols east.length) hl2
    omega
def subM (m : Nat) (s : Sp) : Sp := ⟨s.x, s.y, s.more - m⟩
theorem wrongN_le (north : Int) (east : List Int) (svs : List Sv) (loft x y : Int) : wrongN north east svs loft x y ≤ svs.length := List.length_filter_le _ _
theorem rawSpots_low (north : Int) (cols lofts : Nat) (east : List Int) (svs : List Sv) (k : Nat) (hl2 : svs.length ≤ 16) (pl : List (Nat × Nat)) : ∀ s ∈ rawSpots north east svs k pl, lowC north east svs k pl ≤ s.more ∧ s.more ≤ 16 := by
  intro s hs
  simp only [rawSpots, List.mem_map] at hs
  obtain ⟨p, hp, rfl⟩ := hs
  refine ⟨(foldl_min_le _ _).2 _ (List.mem_map.2 ⟨p, hp, rfl⟩), ?_⟩
  have := wrongN_le north east svs k p.1 p.2
  show wrongN north east svs k p.1 p.2 ≤ 16
  omega

theorem Fr.t2 {R R' : Nat → Prop} {A B C : World} (h : Fr R A B) (k : Fr R' B C) (hr : ∀ i, i < A.heap.size → R' i → R i) : Fr R A C :=
  ⟨k.os.trans h.os, k.tape.trans h.tape, k.output.trans h.output, Nat.le_trans h.size k.size, fun i hi hn => (k.block i (Nat.lt_of_lt_of_le hi h.size) (fun h' => hn (hr i hi h'))).trans (h.block i hi hn)⟩
def mixL (raw : List Sp) (m q : Nat) : List Sp := (raw.take q).map (subM m) ++ raw.drop q
theorem spotCells_app (A B : List Sp) : spotCells (A ++ B) = spotCells A ++ spotCells B := by simp [spotCells]
theorem spotCells_len (A : List Sp) : (spotCells A).length = A.length * 3 := by
  induction A with
  | nil => rfl
  | cons a A ih => simp only [spotCells, List.flatMap_cons, List.length_append, List.length_cons, List.length_nil] at ih ⊢; omega
theorem mixL_at (raw : List Sp) (m q : Nat) (h : q < raw.length) :
    (spotCells (mixL raw m q))[q * 3 + 2]? = some (.int .i64 (raw.getD q default).more) ∧
    (spotCells (mixL raw m q)).set (q * 3 + 2) (.int .i64 (((raw.getD q default).more - m : Nat) : Int)) = spotCells (mixL raw m (q + 1)) := by
  have e1 : raw.drop q = raw.getD q default :: raw.drop (q + 1) := by rw [List.drop_eq_getElem_cons h]; simp [h]
  have e2 : mixL raw m (q + 1) = (raw.take q).map (subM m) ++ subM m (raw.getD q default) :: raw.drop (q + 1) := by
    unfold mixL
    rw [List.take_succ_eq_append_getElem h, List.map_append, List.append_assoc]
    have e : raw.getD q default = raw[q] := by simp [h]
    rw [e]
    rfl
  have e3 : mixL raw m q = (raw.take q).map (subM m) ++ raw.getD q default :: raw.drop (q + 1) := by unfold mixL; rw [e1]
  have hl : (spotCells ((raw.take q).map (subM m))).length = q * 3 := by rw [spotCells_len, List.length_map, List.length_take]; omega
  have c : ∀ (s : Sp) (B : List Sp), spotCells (s :: B) = .int .i64 s.x :: .int .i64 s.y :: .int .i64 s.more :: spotCells B := fun s B => by simp [spotCells]
  rw [e2, e3, spotCells_app, spotCells_app, c, c]
  constructor
  · rw [List.getElem?_append_right (by omega), hl, show q * 3 + 2 - q * 3 = 2 by omega]; rfl
  · rw [List.set_append_right _ _ (by omega), hl, show q * 3 + 2 - q * 3 = 2 by omega]; rfl

theorem spotCells_at (l : List Sp) (i : Nat) (h : i < l.length) : (spotCells l)[i * 3]? = some (.int .i64 (l.getD i default).x) ∧ (spotCells l)[i * 3 + 1]? = some (.int .i64 (l.getD i default).y) ∧ (spotCells l)[i * 3 + 2]? = some (.int .i64 (l.getD i default).more) := by
  have e : l = l.take i ++ l.getD i default :: l.drop (i + 1) := by
    have e1 : l.drop i = l.getD i default :: l.drop (i + 1) := by rw [List.drop_eq_getElem_cons h]; simp [h]
    rw [← e1, List.take_append_drop]
  have c : ∀ (s : Sp) (B : List Sp), spotCells (s :: B) = .int .i64 s.x :: .int .i64 s.y :: .int .i64 s.more :: spotCells B := fun s B => by simp [spotCells]
  have hl : (spotCells (l.take i)).length = i * 3 := by rw [spotCells_len, List.length_take]; omega
  have e3 : spotCells l = spotCells (l.take i) ++ .int .i64 (l.getD i default).x :: .int .i64 (l.getD i default).y :: .int .i64 (l.getD i default).more :: spotCells (l.drop (i + 1)) := by
    rw [← c, ← spotCells_app, ← e]
  rw [e3]
  generalize l.getD i default = s
  refine ⟨?_, ?_, ?_⟩
  · rw [List.getElem?_append_right (by omega), hl, show i * 3 - i * 3 = 0 by omega]; rfl
  · rw [List.getElem?_append_right (by omega), hl, show i * 3 + 1 - i * 3 = 1 by omega]; rfl
  · rw [List.getElem?_append_right (by omega), hl, show i * 3 + 2 - i * 3 = 2 by omega]; rfl
theorem SpotsAt.of_row {W : World} {base N cap gg : Nat} {l : List Sp} (hr : W.ownsRow base 110 3 (.slice (some ⟨gg, 0, none⟩) N cap) N (spotCells l)) (hl : l.length = N) : SpotsAt W (.slice (some ⟨gg, 0, none⟩) N cap) l := by
  refine ⟨gg, cap, by rw [hl], ?_, fun i hi => ?_⟩
  · rcases hr.2 with ⟨h0, _⟩ | ⟨g, cap', cur, h1, _, hgb, _⟩
    · cases h0
    · obtain rfl : gg = g := by simpa [Value.ownBlock] using congrArg Value.ownBlock h1
      exact ⟨cur, hgb⟩
  obtain ⟨h1, h2, h3⟩ := spotCells_at l i hi
  exact ⟨(hr.cellAt _ (by omega)).trans h1, (hr.cellAt _ (by omega)).trans h2, (hr.cellAt _ (by omega)).trans h3⟩
def S14 (Vo Bl O Bf gg q more : Nat) (oc : Array Value) (k mn : Nat) (W' : World) : Prop :=
  Blk W' Vo 58 #[.pointer (some ⟨O, 0, none⟩)] ∧ Blk W' Bl 3 #[.int .i64 k] ∧ Blk W' O 99 oc ∧ Blk W' Bf 3 #[.int .i64 mn] ∧ W'.cell? ⟨gg, q * 3 + 2, none⟩ = some (.int .i64 more)
def S16 (Vo O Bf : Nat) (oc : Array Value) (mn : Nat) (W' : World) : Prop :=
  Blk W' Vo 58 #[.pointer (some ⟨O, 0, none⟩)] ∧ Blk W' O 99 oc ∧ Blk W' Bf 3 #[.int .i64 mn]
def OpenRow2 (Vo Bl O Bf gg N cap : Nat) (W8 : World) (oc : Array Value) (k mn : Nat) (l : List Sp) (W' : World) : Prop :=
  Blk W' Vo 58 #[.pointer (some ⟨O, 0, none⟩)] ∧ Blk W' Bl 3 #[.int .i64 k] ∧ Blk W' O 99 oc ∧ Blk W' Bf 3 #[.int .i64 mn] ∧ W'.ownsRow (Bl + 3) 110 3 (.slice (some ⟨gg, 0, none⟩) N cap) N (spotCells l) ∧ Fr (fun i => i = gg) W8 W'

/-- the mark of a range over a function among the deferred calls -/
abbrev markD (D : Nat) : Deferred := { target := .collected D, args := #[] }
def Marks (B : Nat) (Ds : List Nat) (w : World) : Prop := Ds.Nodup ∧ ∀ D, D ∈ Ds → B ≤ D ∧ w.heap[D]? = some (.deferred (some []))
theorem Marks.nil (B : Nat) (w : World) : Marks B [] w := ⟨List.nodup_nil, fun _ h => by cases h⟩

def OpenInv (w : World) (north wrong : Int) (cols lofts : Nat) (east : List Int) (svs : List Sv) (ea sa : Option Addr) (ec sc : Nat) (k : Nat) (wr : World) : Prop :=
  ∃ slv : Nat → Value, Blk wr w.heap.size 25 #[.int .i64 north, .int .i64 cols, .slice ea east.length ec, .int .i64 lofts, .slice sa svs.length sc, .int .i64 wrong] ∧
    Blk wr (w.heap.size + 1) 99 (oc north cols (.slice ea east.length ec) lofts (.slice sa svs.length sc) wrong (fewSum north cols east svs k) slv) ∧
    Blk wr (w.heap.size + 1 + 1) 58 #[.pointer (some ⟨w.heap.size + 1, 0, none⟩)] ∧
    (∀ j, k ≤ j → slv j = .slice none 0 0) ∧ (∀ j, j < k → SpotsAt wr (slv j) (spotsOf north cols east svs j)) ∧ G w wr

theorem leaves_marks {F : Fence} {n : Nat} {P : Program} {fn : Func} {tmps : Array Value} {R : Ending → World → Prop} {B : Nat} : ∀ (Ds : List Nat) (w : World), Marks B Ds w →
    (∀ w', Fr (fun i => i ∈ Ds) w w' → LeavesInM F n P fn tmps R [] .returning w') → LeavesInM F n P fn tmps R (Ds.map markD) .returning w
  | [], w, _, h => h w (Fr.rf _ _)
  | D :: Ds, w, hm, h => by
    have hD := hm.2 D List.mem_cons_self
    have hnd := List.nodup_cons.1 hm.1
    refine ⟨by simp, .inl ⟨D, _, rfl, run_takeDeferred hD.2, ?_⟩⟩
    have hf : Fr (fun i => i = D) w (w.putObj D (.deferred none)) := ⟨rfl, rfl, rfl, by simp [World.putObj], fun i _ hn => World.putObj_heap_other hn⟩
    refine leaves_marks (B := B) Ds _ ⟨hnd.2, fun D' h' => ⟨(hm.2 D' (List.mem_cons_of_mem _ h')).1, (hf.block D' (Array.getElem?_eq_some_iff.1 (hm.2 D' (List.mem_cons_of_mem _ h')).2).1 (fun e => hnd.1 (e ▸ h'))).trans (hm.2 D' (List.mem_cons_of_mem _ h')).2⟩⟩ (fun w' hw' => h w' ?_)
    exact (hf.mono (fun i _ e => by rw [e]; exact List.mem_cons_self)).t (hw'.mono (fun i _ e => List.mem_cons_of_mem _ e))
theorem Marks.ne {B : Nat} {Ds : List Nat} {w : World} (h : Marks B Ds w) {g : Nat} {t : TypeId} {cs : Array Value} (hb : Blk w g t cs) : ¬ g ∈ Ds := fun hm => by
  have h1 := (h.2 g hm).2
  rw [show w.heap[g]? = _ from hb] at h1; cases h1
theorem OpenInv.marks {w : World} {north wrong : Int} {cols lofts : Nat} {east : List Int} {svs : List Sv} {ea sa : Option Addr} {ec sc : Nat} {k : Nat} {wr w' : World} {Ds : List Nat}
    (h : OpenInv w north wrong cols lofts east svs ea sa ec sc k wr) (hm : Marks w.heap.size Ds wr) (hne : ∀ j, 0 < (spotsOf north cols east svs j).length) (hf : Fr (fun i => i ∈ Ds) wr w') :
    OpenInv w north wrong cols lofts east svs ea sa ec sc k w' := by
  obtain ⟨slv, bM, bO, bV, hnil, hsp, hG⟩ := h
  refine ⟨slv, hf.blk bM (hm.ne bM), hf.blk bO (hm.ne bO), hf.blk bV (hm.ne bV), hnil, fun j hj => ?_, ((G.fr (R := fun _ => False) hG).t2 hf (fun i hi h => ?_)).toG (fun _ _ h => h)⟩
  · have hsj := hsp j hj
    refine hsj.keep (fun g hg e => hf.block g hg ?_) hf.size
    intro hmem
    obtain ⟨g', cap', hv', _, hc'⟩ := hsj
    rw [hv'] at e
    obtain rfl : g' = g := by simpa [Value.ownBlock] using e
    have h2 := (hc' 0 (hne j)).1
    have h3 := (hm.2 _ hmem).2
    simp [World.cell?, h3] at h2
  · have := (hm.2 i h).1
    omega

/-- between two rounds of the loop over the places of loft k -/
def OpenRow (w wk : World) (north wrong : Int) (cols lofts : Nat) (east : List Int) (svs : List Sv) (ea sa : Option Addr) (ec sc : Nat) (k : Nat) (slv : Nat → Value) (pre : List (Nat × Nat)) (W : World) : Prop :=
  ∃ v, Blk W w.heap.size 25 #[.int .i64 north, .int .i64 cols, .slice ea east.length ec, .int .i64 lofts, .slice sa svs.length sc, .int .i64 wrong] ∧
    Blk W (w.heap.size + 1) 99 (oc north cols (.slice ea east.length ec) lofts (.slice sa svs.length sc) wrong (fewSum north cols east svs k) (upd slv k v)) ∧
    Blk W (w.heap.size + 1 + 1) 58 #[.pointer (some ⟨w.heap.size + 1, 0, none⟩)] ∧
    Blk W wk.heap.size 3 #[.int .i64 k] ∧ Blk W (wk.heap.size + 1) 3 #[.int .i64 (lowC north east svs k pre)] ∧
    W.ownsRow (wk.heap.size + 3) 110 3 v pre.length (spotCells (rawSpots north east svs k pre)) ∧ Fr (fun i => i = w.heap.size + 1) wk W ∧ wk.heap.size + 3 ≤ W.heap.size

theorem ownsRow_kept' {W W' : World} {base : Nat} {e : TypeId} {size : Nat} {v : Value} {k : Nat} {xs : List Value} {row : Option Nat} (h : W.ownsRow base e size v k xs) (hg : W.grownBy W' row)
    (hrow : ∀ r, row = some r → ∃ o : Obj, W.heap[r]? = some o ∧ o.isCells = false) : W'.ownsRow base e size v k xs := by
  refine h.kept hg ?_
  rcases h.2 with ⟨rfl, _⟩ | ⟨g, cap, cur, rfl, _, hgb, _⟩
  · exact .inl rfl
  · refine .inr fun e' => ?_
    obtain ⟨o, ho, hc⟩ := hrow g (by simpa [Value.ownBlock] using e'.symm)
    rw [hgb] at ho; cases ho; cases hc

theorem openRow_own (w wk : World) (north wrong : Int) (cols lofts : Nat) (east : List Int) (svs : List Sv) (ea sa : Option Addr) (ec sc : Nat) (k : Nat) (slv : Nat → Value) (B : Nat) (hB : wk.heap.size ≤ B) :
    OwnFrom B (OpenRow w wk north wrong cols lofts east svs ea sa ec sc k slv) := by
  rintro pre X Y row ⟨v, b1, b2, b3, b4, b5, hr, hf, hs⟩ hg hrow
  have hn : ∀ {g : Nat} {t : TypeId} {cs : Array Value}, Blk X g t cs → some g ≠ row := fun hb e => by
    obtain ⟨_, o, ho, hc⟩ := hrow _ e.symm
    rw [show X.heap[_]? = _ from hb] at ho; cases ho; cases hc
  exact ⟨v, b1.grown hg (hn b1), b2.grown hg (hn b2), b3.grown hg (hn b3), b4.grown hg (hn b4), b5.grown hg (hn b5), ownsRow_kept' hr hg (fun r e => (hrow r e).2), hf.grown hg (fun g e => .inr (Nat.le_trans hB (hrow g e).1)), Nat.le_trans hs hg.size⟩

theorem ownsRow_G {W W' : World} {base : Nat} {e : TypeId} {size : Nat} {v : Value} {k : Nat} {xs : List Value} (h : W.ownsRow base e size v k xs) (hg : G W W') : W'.ownsRow base e size v k xs :=
  ownsRow_kept' (row := none) h ⟨hg.os, hg.tape, hg.output, hg.size, fun i hi _ => hg.block i hi⟩ (fun _ e => by cases e)

theorem upd_upd {α : Type} (f : Nat → α) (k : Nat) (u v : α) : upd (upd f k u) k v = upd f k v := by
  funext j
  unfold upd
  split <;> rfl
theorem grownBy_set (W : World) (a : Addr) (v : Value) : W.grownBy (W.setCell a v) (some a.block) :=
  ⟨rfl, rfl, rfl, (KeepsWalks.setCell W _ v).size, fun k _ hk => Below.heap_setCell _ _ _ k (fun e => hk (by rw [e]))⟩
theorem Blk.dr {w : World} {g : Nat} {t : TypeId} {cs : Array Value} (h : Blk w g t cs) : Blk w.drew g t cs := h
theorem own_ne {W : World} {g : Nat} {t e : TypeId} {cs : Array Value} {base size k : Nat} {v : Value} {xs : List Value} (hr : W.ownsRow base e size v k xs) (h : Blk W g t cs) (hte : t ≠ e) : some g ≠ v.ownBlock := by
  rcases hr.2 with ⟨rfl, _⟩ | ⟨g', cap, cur, rfl, _, hgb, _⟩
  · simp [Value.ownBlock]
  · intro e'
    obtain rfl : g = g' := by simpa [Value.ownBlock] using e'
    have := (show W.heap[g]? = _ from h).symm.trans hgb
    simp at this
    exact hte this.2
theorem own_far {W : World} {g : Nat} {e : TypeId} {base size k : Nat} {v : Value} {xs : List Value} (hr : W.ownsRow base e size v k xs) (hg : W.heap.size ≤ g) : some g ≠ v.ownBlock := by
  rcases hr.2 with ⟨rfl, _⟩ | ⟨g', cap, cur, rfl, _, hgb, _⟩
  · simp [Value.ownBlock]
  · intro e'
    obtain rfl : g = g' := by simpa [Value.ownBlock] using e'
    have := (Array.getElem?_eq_some_iff.1 hgb).1
    omega
theorem own_base {W : World} {g : Nat} {e : TypeId} {base size k : Nat} {v : Value} {xs : List Value} (hr : W.ownsRow base e size v k xs) (hg : v.ownBlock = some g) : base ≤ g := by
  rcases hr.2 with ⟨rfl, _⟩ | ⟨g', cap, cur, rfl, hb, hgb, _⟩
  · simp [Value.ownBlock] at hg
  · obtain rfl : g' = g := by simpa [Value.ownBlock] using hg
    exact hb
theorem own_cells {W : World} {g : Nat} {e : TypeId} {base size k : Nat} {v : Value} {xs : List Value} (hr : W.ownsRow base e size v k xs) (hg : v.ownBlock = some g) : ∃ c t f, W.heap[g]? = some (.cells c t f) := by
  rcases hr.2 with ⟨rfl, _⟩ | ⟨g', cap, cur, rfl, hb, hgb, _⟩
  · simp [Value.ownBlock] at hg
  · obtain rfl : g' = g := by simpa [Value.ownBlock] using hg
    exact ⟨_, _, _, hgb⟩
theorem info120 : (Try.prog.info? 110).map (fun i => (i.zero, i.size, i.bytes)) = some (some (.agg #[.int .i64 0, .int .i64 0, .int .i64 0]), 3, 24) := by kernel_rfl

/-- what the statement 'o.spots[loft] = append(..)' reads -/
def S9 (w wk W3 : World) (Sb k : Nat) (p : Nat × Nat) (c : Nat) (oc : Array Value) (W' : World) : Prop :=
  Blk W' (w.heap.size + 1 + 1) 58 #[.pointer (some ⟨w.heap.size + 1, 0, none⟩)] ∧ Blk W' wk.heap.size 3 #[.int .i64 k] ∧ Blk W' (w.heap.size + 1) 99 oc ∧ Blk W' Sb 110 #[.int .i64 p.1, .int .i64 p.2, .int .i64 c]

set_option maxRecDepth 100000 in
set_option maxHeartbeats 4000000 in
theorem open_in (n : Nat) (hn : 4 ≤ n) (north wrong : Int) (cols lofts : Nat) (east : List Int) (svs : List Sv) (ea sa : Option Addr) (ec sc : Nat) (w : World) (he : IntsAt w ea east) (hs0 : SvsAt w sa svs)
    (hl2 : svs.length ≤ 16) (hv : validMapB north cols east lofts wrong = true) (hso : svs.all (svOk cols east.length lofts) = true) :
    CallsIn Fence.wide n Try.prog 28 #[.agg #[.int .i64 north, .int .i64 cols, .slice ea east.length ec, .int .i64 lofts, .slice sa svs.length sc, .int .i64 wrong]] w fun e w' =>
      e = .returned (.pointer (some ⟨w.heap.size + 1, 0, none⟩)) ∧ OpenInv w north wrong cols lofts east svs ea sa ec sc lofts w' := by
  have hvb := vm_bounds hv
  have hlo8 : lofts ≤ 8 := by omega
  have hc10 : cols ≤ 10 := by omega
  have hr10 : east.length ≤ 10 := hvb.2.2.2.2.1.2
  clear hvb
  refine callsIn_of_wp_marks Try.func28 rfl trivial ?_ rfl
  simp only [Try.ntmps28, List.size_toArray, List.length_cons, List.length_nil, Nat.reduceAdd, Nat.reduceSub, Array.replicate_succ, Array.replicate_zero, List.push_toArray, List.append_toArray, List.nil_append, List.cons_append]
  gi_wp2
  refine wpIn_loop (fun a' w' => ∃ (k : Nat) (Ds : List Nat) (u4 u5 u6 u7 u8 u15 u16 u17 u18 u19 u20 u21 u23 u24 u25 u26 u27 u28 u29 u30 u31 u32 u33 u34 u35 u36 u37 u38 u39 u40 u41 u42 u43 u44 u45 u46 u47 u48 u49 u50 u51 u52 u53 u54 u55 u56 u57 u58 u59 u60 u61 u62 u63 u64 u65 u66 u67 u68 u69 u70 u71 u72 u73 u74 u75 u76 u77 u78 u79 u80 : Value), (k ≤ lofts ∧ OpenInv w north wrong cols lofts east svs ea sa ec sc k w' ∧ Marks w.heap.size Ds w') ∧
      a' = { tmps := #[.agg #[.int .i64 north, .int .i64 cols, .slice ea east.length ec, .int .i64 lofts, .slice sa svs.length sc, .int .i64 wrong], .pointer (some ⟨w.heap.size, 0, none⟩), .pointer none, .pointer (some ⟨w.heap.size + 1 + 1, 0, none⟩), u4, u5, u6, u7, u8, .agg #[.int .i64 north, .int .i64 cols, .slice ea east.length ec, .int .i64 lofts, .slice sa svs.length sc, .int .i64 wrong], .agg #[.int .i64 north, .int .i64 cols, .slice ea east.length ec, .int .i64 lofts, .slice sa svs.length sc, .int .i64 wrong, .int .i64 0, .slice none 0 0, .slice none 0 0, .slice none 0 0, .slice none 0 0, .slice none 0 0, .slice none 0 0, .slice none 0 0, .slice none 0 0], .pointer (some ⟨w.heap.size + 1, 0, none⟩), .pointer (some ⟨w.heap.size, 3, none⟩), .int .i64 lofts, .int .i64 k, u15, u16, u17, u18, u19, u20, u21, undef, u23, u24, u25, u26, u27, u28, u29, u30, u31, u32, u33, u34, u35, u36, u37, u38, u39, u40, u41, u42, u43, u44, u45, u46, u47, u48, u49, u50, u51, u52, u53, u54, u55, u56, u57, u58, u59, u60, u61, u62, u63, u64, u65, u66, u67, u68, u69, u70, u71, u72, u73, u74, u75, u76, u77, u78, u79, u80, undef], defers := Ds.map markD }) (fun a' _ => lofts - (intOf (a'.tmps.getD 14 undef)).toNat) ?_ ?_
  · refine ⟨0, [], ?_⟩
    repeat apply Exists.intro
    refine ⟨⟨Nat.zero_le _, ⟨fun _ => .slice none 0 0, ((Blk.new _ _ _).alloc _).alloc _, (Blk.new1 _ _ _ _).alloc _, Blk.new2 _ _ _ _ _, fun _ _ => rfl, fun j hj => absurd hj (Nat.not_lt_zero _), (((G.rf _).a _).a _).a _⟩, Marks.nil _ _⟩, rfl⟩
  · intro _ wr hinv
    obtain ⟨k, hinv⟩ := hinv
    obtain ⟨Ds, hinv⟩ := hinv
    obtain ⟨u4, hinv⟩ := hinv
    obtain ⟨u5, hinv⟩ := hinv
    obtain ⟨u6, hinv⟩ := hinv
    obtain ⟨u7, hinv⟩ := hinv
    obtain ⟨u8, hinv⟩ := hinv
    obtain ⟨u15, hinv⟩ := hinv
    obtain ⟨u16, hinv⟩ := hinv
    obtain ⟨u17, hinv⟩ := hinv
    obtain ⟨u18, hinv⟩ := hinv
    obtain ⟨u19, hinv⟩ := hinv
    obtain ⟨u20, hinv⟩ := hinv
    obtain ⟨u21, hinv⟩ := hinv
    obtain ⟨u23, hinv⟩ := hinv
    obtain ⟨u24, hinv⟩ := hinv
    obtain ⟨u25, hinv⟩ := hinv
    obtain ⟨u26, hinv⟩ := hinv
    obtain ⟨u27, hinv⟩ := hinv
    obtain ⟨u28, hinv⟩ := hinv
    obtain ⟨u29, hinv⟩ := hinv
    obtain ⟨u30, hinv⟩ := hinv
    obtain ⟨u31, hinv⟩ := hinv
    obtain ⟨u32, hinv⟩ := hinv
    obtain ⟨u33, hinv⟩ := hinv
    obtain ⟨u34, hinv⟩ := hinv
    obtain ⟨u35, hinv⟩ := hinv
    obtain ⟨u36, hinv⟩ := hinv
    obtain ⟨u37, hinv⟩ := hinv
    obtain ⟨u38, hinv⟩ := hinv
    obtain ⟨u39, hinv⟩ := hinv
    obtain ⟨u40, hinv⟩ := hinv
    obtain ⟨u41, hinv⟩ := hinv
    obtain ⟨u42, hinv⟩ := hinv
    obtain ⟨u43, hinv⟩ := hinv
    obtain ⟨u44, hinv⟩ := hinv
    obtain ⟨u45, hinv⟩ := hinv
    obtain ⟨u46, hinv⟩ := hinv
    obtain ⟨u47, hinv⟩ := hinv
    obtain ⟨u48, hinv⟩ := hinv
    obtain ⟨u49, hinv⟩ := hinv
    obtain ⟨u50, hinv⟩ := hinv
    obtain ⟨u51, hinv⟩ := hinv
    obtain ⟨u52, hinv⟩ := hinv
    obtain ⟨u53, hinv⟩ := hinv
    obtain ⟨u54, hinv⟩ := hinv
    obtain ⟨u55, hinv⟩ := hinv
    obtain ⟨u56, hinv⟩ := hinv
    obtain ⟨u57, hinv⟩ := hinv
    obtain ⟨u58, hinv⟩ := hinv
    obtain ⟨u59, hinv⟩ := hinv
    obtain ⟨u60, hinv⟩ := hinv
    obtain ⟨u61, hinv⟩ := hinv
    obtain ⟨u62, hinv⟩ := hinv
    obtain ⟨u63, hinv⟩ := hinv
    obtain ⟨u64, hinv⟩ := hinv
    obtain ⟨u65, hinv⟩ := hinv
    obtain ⟨u66, hinv⟩ := hinv
    obtain ⟨u67, hinv⟩ := hinv
    obtain ⟨u68, hinv⟩ := hinv
    obtain ⟨u69, hinv⟩ := hinv
    obtain ⟨u70, hinv⟩ := hinv
    obtain ⟨u71, hinv⟩ := hinv
    obtain ⟨u72, hinv⟩ := hinv
    obtain ⟨u73, hinv⟩ := hinv
    obtain ⟨u74, hinv⟩ := hinv
    obtain ⟨u75, hinv⟩ := hinv
    obtain ⟨u76, hinv⟩ := hinv
    obtain ⟨u77, hinv⟩ := hinv
    obtain ⟨u78, hinv⟩ := hinv
    obtain ⟨u79, hinv⟩ := hinv
    obtain ⟨u80, hinv⟩ := hinv
    obtain ⟨hrel, ha⟩ := hinv
    subst ha
    obtain ⟨hk, ⟨slv, bM, bO, bV, hnil, hsp, hG⟩, hMk⟩ := hrel
    have m0 := bM.cell 0
    have m1 := bM.cell 1
    have m2 := bM.cell 2
    have m3 := bM.cell 3
    have m4 := bM.cell 4
    have m5 := bM.cell 5
    have lM := bM.lt
    by_cases hlt : k < lofts
    · obtain ⟨wk, rfl⟩ : ∃ wk, wk = wr := ⟨_, rfl⟩
      gi_wp2_with (gi_at_call 52; refine (callsIn_wide.2 (allPlaces_any _ _ _ _ _ _ _)).mono ?_; rintro e w' ⟨rfl, rfl⟩)
      have hsz : wk.heap.size + 1 + 1 < (((wk.alloc (.cells #[.int .i64 k] 3)).alloc (.cells #[.int .i64 svs.length] 3)).alloc (.cells #[.int .i64 north, .int .i64 cols, .slice ea east.length ec, .int .i64 lofts, .slice sa svs.length sc, .int .i64 wrong] 25)).heap.size := by simp
      refine rangeFunc_box (F := Fence.wide) (α := Pl cols east.length) (gf := 69) (lb := #[.pointer (some ⟨wk.heap.size + 1 + 1, 0, none⟩)]) rfl (by omega) rfl trivial (enters_of Try.func69 (by kernel_rfl) rfl)
        (ev := fun x => ptV x.1) (B := wk.heap.size + 1 + 1) (allPl_stops (n - 1) (by omega) (wk.heap.size + 1 + 1) cols east.length ec north ea (.int .i64 lofts) (.slice sa svs.length sc) (.int .i64 wrong) hc10 hr10 _ (Blk.new2 _ _ _ _ _))
        hsz (Below.refl _ _)
        (fun pre W => OpenRow w wk north wrong cols lofts east svs ea sa ec sc k slv (pre.map (·.1)) W) (fun _ _ _ => False) ?hI (fun _ _ _ _ _ h _ _ => h) ?hIs ?h0 6 39 (fun x => #[.int .i64 x.1.1, .int .i64 x.1.2]) ?assign ?body ?done ?stop
      case hI => exact fun s => openRow_own _ _ _ _ _ _ _ _ _ _ _ _ _ _ _ (by simp; omega) (s.map (·.1))
      case hIs =>
        rintro pre W ⟨v, _, _, _, _, _, _, _, h⟩
        simpa using h
      case h0 =>
        refine ⟨.slice none 0 0, ((bM.alloc _).alloc _).alloc _, ?_, ((bV.alloc _).alloc _).alloc _, ((Blk.new _ _ _).alloc _).alloc _, (Blk.new1 _ _ _ _).alloc _, World.ownsRow_nil _ _ _ _, (((Fr.rf _ _).a _).a _).a _, by simp⟩
        have e : upd slv k (.slice none 0 0) = slv := by
          funext j
          unfold upd
          split
          · rename_i h; rw [h, hnil k (Nat.le_refl _)]
          · rfl
        rw [e]
        exact ((bO.alloc _).alloc _).alloc _
      case assign =>
        intro l x W K hK
        gi_wp2
        exact hK
      case body =>
        rintro l pre x Bp W hl hrec ⟨v, b1, b2, b3, b4, b5, hr, hf, hs⟩ hBp bP hN
        clear m0 m1 m2 m3 m4 m5 lM
        gi_wp2
        refine wpIn_region_held (l := some l) (S := G W) 8 rfl (by kernel_rfl) (fun ⟨_, _, h⟩ => h) (by kernel_rfl) (G.rf W).d (fun hS => ?_)
        have fP0 : ∀ W', G W W' → W'.cell? ⟨Bp, 0, none⟩ = some (.int .i64 x.1.1) := fun W' h => (bP.keep h).cell 0
        have fP1 : ∀ W', G W W' → W'.cell? ⟨Bp, 1, none⟩ = some (.int .i64 x.1.2) := fun W' h => (bP.keep h).cell 1
        have fM0 : ∀ W', G W W' → W'.cell? ⟨w.heap.size, 0, none⟩ = some (.int .i64 north) := fun W' h => (b1.keep h).cell 0
        have fM1 : ∀ W', G W W' → W'.cell? ⟨w.heap.size, 1, none⟩ = some (.int .i64 cols) := fun W' h => (b1.keep h).cell 1
        have fM2 : ∀ W', G W W' → W'.cell? ⟨w.heap.size, 2, none⟩ = some (.slice ea east.length ec) := fun W' h => (b1.keep h).cell 2
        have fM3 : ∀ W', G W W' → W'.cell? ⟨w.heap.size, 3, none⟩ = some (.int .i64 lofts) := fun W' h => (b1.keep h).cell 3
        have fM4 : ∀ W', G W W' → W'.cell? ⟨w.heap.size, 4, none⟩ = some (.slice sa svs.length sc) := fun W' h => (b1.keep h).cell 4
        have fM5 : ∀ W', G W W' → W'.cell? ⟨w.heap.size, 5, none⟩ = some (.int .i64 wrong) := fun W' h => (b1.keep h).cell 5
        have fL : ∀ W', G W W' → W'.cell? ⟨wk.heap.size, 0, none⟩ = some (.int .i64 k) := fun W' h => (b4.keep h).cell 0
        refine wpAnyH_take (i := 0) (v := ?_) rfl (by kernel_rfl) (by kernel_rfl) (by kernel_rfl) (fun _ _ _ h => h) (Or.inl ⟨by rfl, ?_⟩) (by assumption) ?_
        rotate_left
        · intro w' hSw; go_simp; with_reducible rfl
        simp only [Act.put, List.setIfInBounds_toArray, List.set_cons_zero, List.set_cons_succ]
        refine wpAnyH_take (i := 1) (v := ?_) rfl (by kernel_rfl) (by kernel_rfl) (by kernel_rfl) (fun _ _ _ h => h) (Or.inl ⟨by rfl, ?_⟩) (by assumption) ?_
        rotate_left
        · intro w' hSw; go_simp; with_reducible rfl
        simp only [Act.put, List.setIfInBounds_toArray, List.set_cons_zero, List.set_cons_succ]
        refine wpAnyH_take (i := 2) (v := ?_) rfl (by kernel_rfl) (by kernel_rfl) (by kernel_rfl) (fun _ _ _ h => h) (Or.inl ⟨by rfl, ?_⟩) (by assumption) ?_
        rotate_left
        · intro w' hSw; go_simp; with_reducible rfl
        simp only [Act.put, List.setIfInBounds_toArray, List.set_cons_zero, List.set_cons_succ]
        refine wpAnyH_take (i := 3) (v := ?_) rfl (by kernel_rfl) (by kernel_rfl) (by kernel_rfl) (fun _ _ _ h => h) (Or.inl ⟨by rfl, ?_⟩) (by assumption) ?_
        rotate_left
        · intro w' hSw; go_simp; with_reducible rfl
        simp only [Act.put, List.setIfInBounds_toArray, List.set_cons_zero, List.set_cons_succ]
        have hGW : G w W := ((G.fr hG).t hf).toG (fun i hi h => by omega)
        have hWA := fun (W' : World) (hW' : G W W') => wrongAt_any north cols lofts wrong k x.1.1 x.1.2 east svs ea sa ec sc W' (he.below (hGW.t hW')) (hs0.below (hGW.t hW')) hl2 hv hso (by have h1 := x.2.1; have h2 := x.2.2; simp [isPlaceB, isInB]; omega)
        refine wpAnyH_ready (rs := [4, 6]) (by kernel_rfl) (by simp) ?_
        refine AllReadyH.cons rfl (fun K1 hK1 => ?_) (AllReadyH.cons rfl (fun K1 hK1 => ?_) AllReadyH.nil)
        go_simp
        refine (hWA _ (G.rf W).d).mono ?_
        rintro e w2 ⟨rfl, hG2⟩
        have hS2 : G W w2 := (G.rf W).d.t hG2
        refine hK1.out _ _ hS2 (fun _ => ?_)
        try simp only [Act.put, List.setIfInBounds_toArray, List.set_cons_zero, List.set_cons_succ]
        refine wpAnyH_take (i := 5) (v := ?_) rfl (by kernel_rfl) (by kernel_rfl) (by kernel_rfl) (fun _ _ _ h => h) (Or.inl ⟨by rfl, ?_⟩) (by assumption) ?_
        rotate_left
        · intro w' hSw; go_simp; with_reducible rfl
        try simp only [Act.put, List.setIfInBounds_toArray, List.set_cons_zero, List.set_cons_succ]
        refine wpAnyH_ready (rs := [6]) (by kernel_rfl) (by simp) ?_
        refine AllReadyH.cons rfl (fun K2 hK2 => ?_) AllReadyH.nil
        go_simp
        refine hK2.out _ _ (hS2.a _) (fun _ => ?_)
        try simp only [Act.put, List.setIfInBounds_toArray, List.set_cons_zero, List.set_cons_succ]
        refine wpAnyH_ready (rs := [7]) (by kernel_rfl) (by simp) ?_
        refine AllReadyH.cons rfl (fun K3 hK3 => ?_) AllReadyH.nil
        go_simp
        have bS := Blk.new w2 110 #[.int .i64 x.1.1, .int .i64 x.1.2, .int .i64 (wrongN north east svs k x.1.1 x.1.2)]
        have hS3 : G W (w2.alloc (.cells #[.int .i64 x.1.1, .int .i64 x.1.2, .int .i64 (wrongN north east svs k x.1.1 x.1.2)] 110)) := hS2.a _
        have hSb : W.heap.size ≤ w2.heap.size := hS2.size
        generalize w2.alloc (.cells #[.int .i64 x.1.1, .int .i64 x.1.2, .int .i64 (wrongN north east svs k x.1.1 x.1.2)] 110) = W3 at *
        generalize w2.heap.size = Sb at *
        refine hK3.out _ _ hS3 (fun _ => ?_)
        rotate_left
        go_simp
        refine hK1.out _ _ ((G.rf W).d.a _) (fun _ => ?_)
        try simp only [Act.put, List.setIfInBounds_toArray, List.set_cons_zero, List.set_cons_succ]
        refine wpAnyH_ready (rs := [4]) (by kernel_rfl) (by simp) ?_
        refine AllReadyH.cons rfl (fun K2 hK2 => ?_) AllReadyH.nil
        go_simp
        refine (hWA _ ((G.rf W).d.a _)).mono ?_
        rintro e w2 ⟨rfl, hG2⟩
        have hS2 : G W w2 := ((G.rf W).d.a _).t hG2
        have bZ : Blk w2 W.heap.size 110 #[.int .i64 0, .int .i64 0, .int .i64 0] := (Blk.new W.drew 110 #[.int .i64 0, .int .i64 0, .int .i64 0]).keep hG2
        refine hK2.out _ _ hS2 (fun _ => ?_)
        try simp only [Act.put, List.setIfInBounds_toArray, List.set_cons_zero, List.set_cons_succ]
        refine wpAnyH_take (i := 5) (v := ?_) rfl (by kernel_rfl) (by kernel_rfl) (by kernel_rfl) (fun _ _ _ h => h) (Or.inl ⟨by rfl, ?_⟩) (by assumption) ?_
        rotate_left
        · intro w' hSw; go_simp; with_reducible rfl
        try simp only [Act.put, List.setIfInBounds_toArray, List.set_cons_zero, List.set_cons_succ]
        have z0 := bZ.cell 0
        have z1 := bZ.cell 1
        have z2 := bZ.cell 2
        have y0 := bZ.frozen 0
        have y1 := bZ.frozen 1
        have y2 := bZ.frozen 2
        refine wpAnyH_ready (rs := [7]) (by kernel_rfl) (by simp) ?_
        refine AllReadyH.cons rfl (fun K3 hK3 => ?_) AllReadyH.nil
        go_simp
        have bS : Blk (((w2.setCell ⟨W.heap.size, 0, none⟩ (.int .i64 x.1.1)).setCell ⟨W.heap.size, 1, none⟩ (.int .i64 x.1.2)).setCell ⟨W.heap.size, 2, none⟩ (.int .i64 (wrongN north east svs k x.1.1 x.1.2))) W.heap.size 110 #[.int .i64 x.1.1, .int .i64 x.1.2, .int .i64 (wrongN north east svs k x.1.1 x.1.2)] := ((bZ.set_ 0 _).set_ 1 _).set_ 2 _
        have hS3 : G W (((w2.setCell ⟨W.heap.size, 0, none⟩ (.int .i64 x.1.1)).setCell ⟨W.heap.size, 1, none⟩ (.int .i64 x.1.2)).setCell ⟨W.heap.size, 2, none⟩ (.int .i64 (wrongN north east svs k x.1.1 x.1.2))) := ((hS2.s (Nat.le_refl _) _).s (Nat.le_refl _) _).s (Nat.le_refl _) _
        have hSb : W.heap.size ≤ W.heap.size := Nat.le_refl _
        generalize (((w2.setCell ⟨W.heap.size, 0, none⟩ (.int .i64 x.1.1)).setCell ⟨W.heap.size, 1, none⟩ (.int .i64 x.1.2)).setCell ⟨W.heap.size, 2, none⟩ (.int .i64 (wrongN north east svs k x.1.1 x.1.2))) = W3 at *
        obtain ⟨Sb, hSe⟩ : ∃ Sb, Sb = W.heap.size := ⟨_, rfl⟩
        rw [← hSe] at bS ⊢
        have hSb : W.heap.size ≤ Sb := by omega
        clear hSe bZ z0 z1 z2 y0 y1 y2
        refine hK3.out _ _ hS3 (fun _ => ?_)
        all_goals
          refine wpAnyH_done (by kernel_rfl) ?_ _
          have bV3 := b3.keep hS3
          have bL3 := b4.keep hS3
          have bO3 := b2.keep hS3
          have bF3 := b5.keep hS3
          have hr3 : W3.ownsRow (wk.heap.size + 3) 110 3 v (pre.map (·.1)).length (spotCells (rawSpots north east svs k (pre.map (·.1)))) := ownsRow_G hr hS3
          clear hK1 hK2 hK3 K1 K2 K3 fP0 fP1 fM0 fM1 fM2 fM3 fM4 fM5 fL hWA hS hrec
          gi_wp2
          refine wpIn_region_Z (l := some l) (S := S9 w wk W3 Sb k x.1 (wrongN north east svs k x.1.1 x.1.2) (oc north cols (.slice ea east.length ec) lofts (.slice sa svs.length sc) wrong (fewSum north cols east svs k) (upd slv k v))) 14 15 rfl (by kernel_rfl) (fun ⟨_, _, h⟩ => h) (by kernel_rfl) ⟨bV3, bL3, bO3, bS⟩ (fun hS => ?_)
          have hk8 : k < 8 := by omega
          have hk8' : (k : Int) < 8 := by omega
          have f9V := fun W' (h : S9 w wk W3 Sb k x.1 (wrongN north east svs k x.1.1 x.1.2) (oc north cols (.slice ea east.length ec) lofts (.slice sa svs.length sc) wrong (fewSum north cols east svs k) (upd slv k v)) W') => h.1.cell 0
          have f9L := fun W' (h : S9 w wk W3 Sb k x.1 (wrongN north east svs k x.1.1 x.1.2) (oc north cols (.slice ea east.length ec) lofts (.slice sa svs.length sc) wrong (fewSum north cols east svs k) (upd slv k v)) W') => h.2.1.cell 0
          have f9O : ∀ W', S9 w wk W3 Sb k x.1 (wrongN north east svs k x.1.1 x.1.2) (oc north cols (.slice ea east.length ec) lofts (.slice sa svs.length sc) wrong (fewSum north cols east svs k) (upd slv k v)) W' → W'.cell? ⟨w.heap.size + 1, 7 + k, none⟩ = some v :=
            fun W' h => (h.2.2.1.cell (7 + k)).trans ((oc_get hk8).trans (by simp [upd]))
          have f9S0 := fun W' (h : S9 w wk W3 Sb k x.1 (wrongN north east svs k x.1.1 x.1.2) (oc north cols (.slice ea east.length ec) lofts (.slice sa svs.length sc) wrong (fewSum north cols east svs k) (upd slv k v)) W') => h.2.2.2.cell 0
          have f9S1 := fun W' (h : S9 w wk W3 Sb k x.1 (wrongN north east svs k x.1.1 x.1.2) (oc north cols (.slice ea east.length ec) lofts (.slice sa svs.length sc) wrong (fewSum north cols east svs k) (upd slv k v)) W') => h.2.2.2.cell 1
          have f9S2 := fun W' (h : S9 w wk W3 Sb k x.1 (wrongN north east svs k x.1.1 x.1.2) (oc north cols (.slice ea east.length ec) lofts (.slice sa svs.length sc) wrong (fewSum north cols east svs k) (upd slv k v)) W') => h.2.2.2.cell 2
          refine wpAnyZ_take (i := 0) (v := ?_) rfl (by kernel_rfl) (by kernel_rfl) (by kernel_rfl) (by kernel_rfl) (fun _ _ _ h => h) (Or.inl ⟨by rfl, ?_⟩) (by assumption) ?_
          rotate_left
          · intro w' hSw; go_simp; with_reducible rfl
          try simp only [Act.put, List.setIfInBounds_toArray, List.set_cons_zero, List.set_cons_succ]
          refine wpAnyZ_take (i := 1) (v := ?_) rfl (by kernel_rfl) (by kernel_rfl) (by kernel_rfl) (by kernel_rfl) (fun _ _ _ h => h) (Or.inl ⟨by rfl, ?_⟩) (by assumption) ?_
          rotate_left
          · intro w' hSw; go_simp; with_reducible rfl
          try simp only [Act.put, List.setIfInBounds_toArray, List.set_cons_zero, List.set_cons_succ]
          refine wpAnyZ_take (i := 2) (v := ?_) rfl (by kernel_rfl) (by kernel_rfl) (by kernel_rfl) (by kernel_rfl) (fun _ _ _ h => h) (Or.inl ⟨by rfl, ?_⟩) (by assumption) ?_
          rotate_left
          · intro w' hSw; go_simp; with_reducible rfl
          try simp only [Act.put, List.setIfInBounds_toArray, List.set_cons_zero, List.set_cons_succ]
          refine wpAnyZ_take (i := 3) (v := ?_) rfl (by kernel_rfl) (by kernel_rfl) (by kernel_rfl) (by kernel_rfl) (fun _ _ _ h => h) (Or.inl ⟨by rfl, ?_⟩) (by assumption) ?_
          rotate_left
          · intro w' hSw; go_simp; with_reducible rfl
          try simp only [Act.put, List.setIfInBounds_toArray, List.set_cons_zero, List.set_cons_succ]
          refine wpAnyZ_take (i := 4) (v := ?_) rfl (by kernel_rfl) (by kernel_rfl) (by kernel_rfl) (by kernel_rfl) (fun _ _ _ h => h) (Or.inl ⟨by rfl, ?_⟩) (by assumption) ?_
          rotate_left
          · intro w' hSw; go_simp; with_reducible rfl
          try simp only [Act.put, List.setIfInBounds_toArray, List.set_cons_zero, List.set_cons_succ]
          refine wpAnyZ_take (i := 5) (v := ?_) rfl (by kernel_rfl) (by kernel_rfl) (by kernel_rfl) (by kernel_rfl) (fun _ _ _ h => h) (Or.inl ⟨by rfl, ?_⟩) (by assumption) ?_
          rotate_left
          · intro w' hSw; go_simp; with_reducible rfl
          try simp only [Act.put, List.setIfInBounds_toArray, List.set_cons_zero, List.set_cons_succ]
          refine wpAnyZ_take (i := 6) (v := ?_) rfl (by kernel_rfl) (by kernel_rfl) (by kernel_rfl) (by kernel_rfl) (fun _ _ _ h => h) (Or.inl ⟨by rfl, ?_⟩) (by assumption) ?_
          rotate_left
          · intro w' hSw; go_simp; with_reducible rfl
          try simp only [Act.put, List.setIfInBounds_toArray, List.set_cons_zero, List.set_cons_succ]
          refine wpAnyZ_take (i := 7) (v := ?_) rfl (by kernel_rfl) (by kernel_rfl) (by kernel_rfl) (by kernel_rfl) (fun _ _ _ h => h) (Or.inl ⟨by rfl, ?_⟩) (by assumption) ?_
          rotate_left
          · intro w' hSw; go_simp; with_reducible rfl
          try simp only [Act.put, List.setIfInBounds_toArray, List.set_cons_zero, List.set_cons_succ]
          refine wpAnyZ_take (i := 8) (v := ?_) rfl (by kernel_rfl) (by kernel_rfl) (by kernel_rfl) (by kernel_rfl) (fun _ _ _ h => h) (Or.inl ⟨by rfl, ?_⟩) (by assumption) ?_
          rotate_left
          · intro w' hSw; go_simp; with_reducible rfl
          try simp only [Act.put, List.setIfInBounds_toArray, List.set_cons_zero, List.set_cons_succ]
          refine wpAnyZ_take (i := 11) (v := ?_) rfl (by kernel_rfl) (by kernel_rfl) (by kernel_rfl) (by kernel_rfl) (fun _ _ _ h => h) (Or.inl ⟨by rfl, ?_⟩) (by assumption) ?_
          rotate_left
          · intro w' hSw; go_simp; with_reducible rfl
          try simp only [Act.put, List.setIfInBounds_toArray, List.set_cons_zero, List.set_cons_succ]
          refine wpAnyZ_take (i := 12) (v := ?_) rfl (by kernel_rfl) (by kernel_rfl) (by kernel_rfl) (by kernel_rfl) (fun _ _ _ h => h) (Or.inl ⟨by rfl, ?_⟩) (by assumption) ?_
          rotate_left
          · intro w' hSw; go_simp; with_reducible rfl
          try simp only [Act.put, List.setIfInBounds_toArray, List.set_cons_zero, List.set_cons_succ]
          refine wpAnyZ_one (i := 9) (by kernel_rfl) rfl (fun K4 hK4 => ?_)
          go_simp
          refine hK4.out _ _ (fun _ => ⟨bV3.alloc _, bL3.alloc _, bO3.alloc _, bS.alloc _⟩) (fun _ => ?_)
          try simp only [Act.put, List.setIfInBounds_toArray, List.set_cons_zero, List.set_cons_succ]
          refine wpAnyZ_one (i := 10) (by kernel_rfl) rfl (fun K5 hK5 => ?_)
          obtain ⟨i0, hi0, hz0, hz1, hz2⟩ := info_parts info120
          have hlen : (pre.map (·.1)).length + 1 ≤ 100 := by
            have h1 : pre.length < east.length * cols := hN
            have h2 : east.length * cols ≤ 10 * 10 := Nat.mul_le_mul hr10 hc10
            simp; omega
          refine step_append_lies _ (by rfl) _ _ 96 (by rfl) (wk.heap.size + 3) 110 i0 _ 3 24 Try.underlying96 hi0 hz0 hz1 hz2 rfl (by omega) v _ _ (by rfl) (hr3.alloc _).drew ⟨W3.heap.size, 0, none⟩ 1 1
            [.int .i64 x.1.1, .int .i64 x.1.2, .int .i64 (wrongN north east svs k x.1.1 x.1.2)] (by rfl) (by rfl) (World.news_of_block (cs := #[.int .i64 x.1.1, .int .i64 x.1.2, .int .i64 (wrongN north east svs k x.1.1 x.1.2)]) (t := 110) (fr := (0, 0)) (heap_alloc_new W3 _)) (by simp [Value.oneCell'])
            (by omega) (by unfold maxLen; omega) (by omega) (by have := hf.size; have := hS3.size; simp; omega) (W3.heap.size + 1) (by simp) ?_
          intro gg cap w5 hown5 hgrow5 hat5 hlt5
          have bV5 := (bV3.alloc _).dr.grown hgrow5 (own_ne hr3 bV3 (by decide))
          have bL5 := (bL3.alloc _).dr.grown hgrow5 (own_ne hr3 bL3 (by decide))
          have bO5 := (bO3.alloc _).dr.grown hgrow5 (own_ne hr3 bO3 (by decide))
          have bF5 := (bF3.alloc _).dr.grown hgrow5 (own_ne hr3 bF3 (by decide))
          have bS5 := (bS.alloc _).dr.grown hgrow5 (own_far hr hSb)
          have c5 : w5.cell? ⟨w.heap.size + 1, 7 + k, none⟩ = some v := (bO5.cell (7 + k)).trans ((oc_get hk8).trans (by simp [upd]))
          have z5 : w5.frozen? ⟨w.heap.size + 1, 7 + k, none⟩ = false := bO5.frozen (7 + k)
          have hS5 : S9 w wk W3 Sb k x.1 (wrongN north east svs k x.1.1 x.1.2) (oc north cols (.slice ea east.length ec) lofts (.slice sa svs.length sc) wrong (fewSum north cols east svs k) (upd slv k v)) w5 := ⟨bV5, bL5, bO5, bS5⟩
          refine hK5.out _ _ (fun _ => hS5) (fun _ => ?_)
          try simp only [Act.put, List.setIfInBounds_toArray, List.set_cons_zero, List.set_cons_succ]
          refine wpAnyZ_take (i := 13) (v := ?_) rfl (by kernel_rfl) (by kernel_rfl) (by kernel_rfl) (by kernel_rfl) (fun _ _ _ h => h) (Or.inl ⟨by rfl, ?_⟩) (by assumption) ?_
          rotate_left
          · intro w' hSw; go_simp; with_reducible rfl
          try simp only [Act.put, List.setIfInBounds_toArray, List.set_cons_zero, List.set_cons_succ]
          refine wpAnyZ_one (i := 14) (by kernel_rfl) rfl (fun K6 hK6 => ?_)
          go_simp
          refine hK6.out _ _ (fun h => absurd rfl h) (fun _ => ?_)
          refine wpAnyZ_done (by kernel_rfl) ?_ _
          clear hK4 hK5 hK6 K4 K5 K6 f9V f9L f9O f9S0 f9S1 f9S2 hS hS5 c5 z5
          have lO := bO.lt
          have sW := hf.size
          have bF6 := bF5.far (p := ⟨w.heap.size + 1, 7 + k, none⟩) (by simp; omega) (.slice (some ⟨gg, 0, none⟩) ((pre.map (·.1)).length + 1) cap)
          have bS6 := bS5.far (p := ⟨w.heap.size + 1, 7 + k, none⟩) (by simp; omega) (.slice (some ⟨gg, 0, none⟩) ((pre.map (·.1)).length + 1) cap)
          have bV6 := bV5.far (p := ⟨w.heap.size + 1, 7 + k, none⟩) (by simp) (.slice (some ⟨gg, 0, none⟩) ((pre.map (·.1)).length + 1) cap)
          have bL6 := bL5.far (p := ⟨w.heap.size + 1, 7 + k, none⟩) (by simp; omega) (.slice (some ⟨gg, 0, none⟩) ((pre.map (·.1)).length + 1) cap)
          have bO6 := bO5.set_ (7 + k) (.slice (some ⟨gg, 0, none⟩) ((pre.map (·.1)).length + 1) cap)
          rw [oc_set hk8, upd_upd] at bO6
          have hown6 := hown5.kept (grownBy_set w5 ⟨w.heap.size + 1, 7 + k, none⟩ (.slice (some ⟨gg, 0, none⟩) ((pre.map (·.1)).length + 1) cap)) (.inr (own_ne hown5 bO5 (by decide)).symm)
          have bM6 := ((((b1.keep hS3).alloc _).dr).grown hgrow5 (own_ne hr3 (b1.keep hS3) (by decide))).far (p := ⟨w.heap.size + 1, 7 + k, none⟩) (by simp) (.slice (some ⟨gg, 0, none⟩) ((pre.map (·.1)).length + 1) cap)
          have fr6 : Fr (fun i => i = w.heap.size + 1 ∨ v.ownBlock = some i) W (w5.setCell ⟨w.heap.size + 1, 7 + k, none⟩ (.slice (some ⟨gg, 0, none⟩) ((pre.map (·.1)).length + 1) cap)) :=
            ((((Fr.rf _ W).g hS3).a _).d.grown hgrow5 (fun g e => .inl (.inr e))).s (.inl (.inl rfl)) _
          have e1 : (pre.map (·.1)).length = pre.length := by simp
          rw [e1] at bF6 bS6 bV6 bL6 bO6 hown6 bM6 fr6
          generalize w5.setCell ⟨w.heap.size + 1, 7 + k, none⟩ (.slice (some ⟨gg, 0, none⟩) (pre.length + 1) cap) = w6 at *
          have d0 := bF6.cell 0
          have d1 := bS6.cell 2
          have d2 := bF6.frozen 0
          gi_wp2
          have sS := hS3.size
          have hB3 : ∀ i, v.ownBlock = some i → wk.heap.size + 3 ≤ i := fun i h => own_base hr h
          have hlow : (min (lowC north east svs k (pre.map (·.1)) : Int) (wrongN north east svs k x.1.1 x.1.2)) = ((lowC north east svs k ((pre ++ [x]).map (·.1)) : Nat) : Int) := by
            rw [List.map_append, List.map_singleton, lowC_snoc]
            unfold cost
            omega
          rw [hlow]
          have fr7 : Fr (fun i => (i = w.heap.size + 1 ∨ v.ownBlock = some i) ∨ i = wk.heap.size + 1) W (w6.setCell ⟨wk.heap.size + 1, 0, none⟩ (.int .i64 ((lowC north east svs k ((pre ++ [x]).map (·.1)) : Nat) : Int))) :=
            (fr6.mono (fun i _ h => .inl h)).s (.inl (.inr rfl)) _
          refine ⟨fr7.keeps ?_ _, fr7.kb (by omega) ?_, ?_⟩
          · rintro i ((rfl | h) | rfl) _
            · exact ⟨_, _, _, b2⟩
            · exact own_cells hr h
            · exact ⟨_, _, _, b5⟩
          · rintro ((h | h) | h)
            · omega
            · have := hB3 _ h; omega
            · omega
          · refine ⟨.slice (some ⟨gg, 0, none⟩) (pre.length + 1) cap, bM6.far (by simp; omega) _, bO6.far (by simp; omega) _, bV6.far (by simp; omega) _, bL6.far (by simp) _, bF6.set_ 0 _, ?_, ?_, ?_⟩
            · have h7 := hown6.kept (grownBy_set w6 ⟨wk.heap.size + 1, 0, none⟩ (.int .i64 ((lowC north east svs k ((pre ++ [x]).map (·.1)) : Nat) : Int))) (.inr (own_ne hown6 bF6 (by decide)).symm)
              have e2 : spotCells (rawSpots north east svs k ((pre ++ [x]).map (·.1))) = spotCells (rawSpots north east svs k (pre.map (·.1))) ++ [.int .i64 x.1.1, .int .i64 x.1.2, .int .i64 (wrongN north east svs k x.1.1 x.1.2)] := by
                simp [rawSpots, spotCells, cost]
              rw [e2]
              simpa using h7
            · exact ⟨fr7.os.trans hf.os, fr7.tape.trans hf.tape, fr7.output.trans hf.output, Nat.le_trans hf.size fr7.size, fun i hi hn => (fr7.block i (by omega) (by
                rintro ((h | h) | h)
                · exact hn h
                · have := hB3 _ h; omega
                · omega)).trans (hf.block i hi hn)⟩
            · exact Nat.le_trans hs fr7.size
      case done =>
        rintro D ys W hD hys ⟨v, b1, b2, b3, b4, b5, hr, hf, hs⟩ hDef
        rw [hys] at hr b5
        have hbd := vm_bounds hv
        have hN1 : 1 ≤ (allP cols east.length).length := by
          rw [allP_len]; exact Nat.mul_le_mul (show 1 ≤ east.length by omega) (show 1 ≤ cols by omega)
        have hN2 : (allP cols east.length).length ≤ 100 := by
          rw [allP_len]; exact Nat.mul_le_mul hr10 hc10
        clear hbd
        have hrl : (rawSpots north east svs k (allP cols east.length)).length = (allP cols east.length).length := by simp [rawSpots]
        have hml : ∀ s ∈ rawSpots north east svs k (allP cols east.length), lowC north east svs k (allP cols east.length) ≤ s.more ∧ s.more ≤ 16 := rawSpots_low north cols lofts east svs k hl2 (allP cols east.length)
        have hso' : spotsOf north cols east svs k = (rawSpots north east svs k (allP cols east.length)).map (subM (lowC north east svs k (allP cols east.length))) := by simp [spotsOf, rawSpots, subM]
        have hfs : fewSum north cols east svs (k + 1) = fewSum north cols east svs k + lowC north east svs k (allP cols east.length) := by simp [fewSum, List.range_succ]
        have HSO := Lib.hid hso'
        have HFS := Lib.hid hfs
        clear hso' hfs
        have hmn : lowC north east svs k (allP cols east.length) ≤ 16 := lowC_le _ _ _ _ _ hl2
        have hspl : ∀ j, (spotsOf north cols east svs j).length = (allP cols east.length).length := fun j => by simp [spotsOf]
        generalize lowC north east svs k (allP cols east.length) = mn at hmn hr b5 hml HSO HFS
        generalize rawSpots north east svs k (allP cols east.length) = raw at hr hrl hml HSO
        generalize (allP cols east.length).length = N at hspl hr hrl hN1 hN2
        have hk8 : k < 8 := by omega
        have hk8' : (k : Int) < 8 := by omega
        obtain ⟨gg, cap, rfl⟩ : ∃ g cap, v = .slice (some ⟨g, 0, none⟩) N cap := by
          rcases hr.2 with ⟨_, h0⟩ | ⟨g, cap, _, rfl, _⟩
          · omega
          · exact ⟨g, cap, rfl⟩
        have aV := b3.gw 0 rfl
        have aL := b4.gw 0 rfl
        have aO := b2.gw (7 + k) ((oc_get hk8).trans (by simp [upd] : _ = some (.slice (some ⟨gg, 0, none⟩) N cap)))
        gi_wp2
        refine wpIn_region_quiet_GR (l := none) (by kernel_rfl) (fun ⟨_, _, h⟩ => by cases h.1) (by kernel_rfl) (by kernel_rfl) ?_
        repeat (quiet_step (fail))
        refine wpQuiet_nil ?_
        intro _ hw'
        obtain ⟨y, rfl⟩ := hw'
        clear aV aL aO
        have gy := y.g
        have hDef' : y.w.heap[D]? = some (.deferred (some [])) := (gy.block D (Array.getElem?_eq_some_iff.1 hDef).1).trans hDef
        replace b1 := b1.keep gy
        replace b2 := b2.keep gy
        replace b3 := b3.keep gy
        replace b4 := b4.keep gy
        replace b5 := b5.keep gy
        replace hr := ownsRow_G hr gy
        replace hf := hf.g gy
        replace hs := Nat.le_trans hs gy.size
        clear hDef gy
        generalize y.w = W8 at *
        clear y
        gi_wp2
        have bOV : gg ≠ w.heap.size + 1 := by
          have h1 := own_base hr (g := gg) rfl
          have h2 := bO.lt
          omega
        have hgB := own_base hr (g := gg) rfl
        have hgL := (hr.lt gg rfl).2
        gi_loopw [54] (fun i W' => ∃ q : Nat, q ≤ N ∧ i = .int .i64 q ∧ OpenRow2 (w.heap.size + 1 + 1) wk.heap.size (w.heap.size + 1) (wk.heap.size + 1) gg N cap W8 (oc north cols (.slice ea east.length ec) lofts (.slice sa svs.length sc) wrong (fewSum north cols east svs k) (upd slv k (.slice (some ⟨gg, 0, none⟩) N cap))) k mn (mixL raw mn q) W') (fun i _ => N - (intOf i).toNat)
        case atStart => exact ⟨0, Nat.zero_le _, rfl, b3, b4, b2, b5, by simpa [mixL] using hr, Fr.rf _ _⟩
        case round =>
          rename_i W' _
          obtain ⟨q, hq, rfl, r3, r4, r2, r5, rr, rf⟩ := hrel
          by_cases hql : q < N
          · have hqi : (q : Int) < N := by omega
            obtain ⟨hget, hset⟩ := mixL_at raw mn q (by omega)
            have hsm := hml _ (show raw.getD q default ∈ raw by simp [show q < raw.length by omega])
            generalize raw.getD q default = s at hget hset hsm
            have cG : wr.cell? ⟨gg, q * 3 + 2, none⟩ = some (.int .i64 s.more) := (rr.cellAt (q * 3 + 2) (by omega)).trans hget
            have zG : wr.frozen? ⟨gg, q * 3 + 2, none⟩ = false := rr.frozenAt _
            have hst := rr.stored (q * 3 + 2) (.int .i64 ((s.more - mn : Nat) : Int))
            rw [hset] at hst
            have HST := Lib.hid hst
            clear hst hget hset
            have hw1 : IntKind.i64.wrap ((s.more : Int) - mn) = ((s.more - mn : Nat) : Int) := by
              rw [IntWalk.i64_in _ (by omega)]; omega
            gi_wp2
            refine wpIn_region_Z (l := none) (S := S14 (w.heap.size + 1 + 1) wk.heap.size (w.heap.size + 1) (wk.heap.size + 1) gg q s.more (oc north cols (.slice ea east.length ec) lofts (.slice sa svs.length sc) wrong (fewSum north cols east svs k) (upd slv k (.slice (some ⟨gg, 0, none⟩) N cap))) k mn) 14 15 rfl (by kernel_rfl) (fun ⟨_, _, h⟩ => by cases h.1) (by kernel_rfl) ⟨r3, r4, r2, r5, cG⟩ (fun hS => ?_)
            have f1 := fun W' (h : S14 (w.heap.size + 1 + 1) wk.heap.size (w.heap.size + 1) (wk.heap.size + 1) gg q s.more (oc north cols (.slice ea east.length ec) lofts (.slice sa svs.length sc) wrong (fewSum north cols east svs k) (upd slv k (.slice (some ⟨gg, 0, none⟩) N cap))) k mn W') => h.1.cell 0
            have f2 := fun W' (h : S14 (w.heap.size + 1 + 1) wk.heap.size (w.heap.size + 1) (wk.heap.size + 1) gg q s.more (oc north cols (.slice ea east.length ec) lofts (.slice sa svs.length sc) wrong (fewSum north cols east svs k) (upd slv k (.slice (some ⟨gg, 0, none⟩) N cap))) k mn W') => h.2.1.cell 0
            have f3 : ∀ W', S14 (w.heap.size + 1 + 1) wk.heap.size (w.heap.size + 1) (wk.heap.size + 1) gg q s.more (oc north cols (.slice ea east.length ec) lofts (.slice sa svs.length sc) wrong (fewSum north cols east svs k) (upd slv k (.slice (some ⟨gg, 0, none⟩) N cap))) k mn W' → W'.cell? ⟨w.heap.size + 1, 7 + k, none⟩ = some (.slice (some ⟨gg, 0, none⟩) N cap) := fun W' h => (h.2.2.1.cell (7 + k)).trans ((oc_get hk8).trans (by simp [upd]))
            have f4 := fun W' (h : S14 (w.heap.size + 1 + 1) wk.heap.size (w.heap.size + 1) (wk.heap.size + 1) gg q s.more (oc north cols (.slice ea east.length ec) lofts (.slice sa svs.length sc) wrong (fewSum north cols east svs k) (upd slv k (.slice (some ⟨gg, 0, none⟩) N cap))) k mn W') => h.2.2.2.1.cell 0
            have f5 := fun W' (h : S14 (w.heap.size + 1 + 1) wk.heap.size (w.heap.size + 1) (wk.heap.size + 1) gg q s.more (oc north cols (.slice ea east.length ec) lofts (.slice sa svs.length sc) wrong (fewSum north cols east svs k) (upd slv k (.slice (some ⟨gg, 0, none⟩) N cap))) k mn W') => h.2.2.2.2
            refine wpAnyZ_take (i := 0) (v := ?_) rfl (by kernel_rfl) (by kernel_rfl) (by kernel_rfl) (by kernel_rfl) (fun _ _ _ h => h) (Or.inl ⟨by rfl, ?_⟩) (by assumption) ?_
            rotate_left
            · intro w' hSw; go_simp; with_reducible rfl
            try simp only [Act.put, List.setIfInBounds_toArray, List.set_cons_zero, List.set_cons_succ]
            refine wpAnyZ_take (i := 1) (v := ?_) rfl (by kernel_rfl) (by kernel_rfl) (by kernel_rfl) (by kernel_rfl) (fun _ _ _ h => h) (Or.inl ⟨by rfl, ?_⟩) (by assumption) ?_
            rotate_left
            · intro w' hSw; go_simp; with_reducible rfl
            try simp only [Act.put, List.setIfInBounds_toArray, List.set_cons_zero, List.set_cons_succ]
            refine wpAnyZ_take (i := 2) (v := ?_) rfl (by kernel_rfl) (by kernel_rfl) (by kernel_rfl) (by kernel_rfl) (fun _ _ _ h => h) (Or.inl ⟨by rfl, ?_⟩) (by assumption) ?_
            rotate_left
            · intro w' hSw; go_simp; with_reducible rfl
            try simp only [Act.put, List.setIfInBounds_toArray, List.set_cons_zero, List.set_cons_succ]
            refine wpAnyZ_take (i := 3) (v := ?_) rfl (by kernel_rfl) (by kernel_rfl) (by kernel_rfl) (by kernel_rfl) (fun _ _ _ h => h) (Or.inl ⟨by rfl, ?_⟩) (by assumption) ?_
            rotate_left
            · intro w' hSw; go_simp; with_reducible rfl
            try simp only [Act.put, List.setIfInBounds_toArray, List.set_cons_zero, List.set_cons_succ]
            refine wpAnyZ_take (i := 4) (v := ?_) rfl (by kernel_rfl) (by kernel_rfl) (by kernel_rfl) (by kernel_rfl) (fun _ _ _ h => h) (Or.inl ⟨by rfl, ?_⟩) (by assumption) ?_
            rotate_left
            · intro w' hSw; go_simp; with_reducible rfl
            try simp only [Act.put, List.setIfInBounds_toArray, List.set_cons_zero, List.set_cons_succ]
            refine wpAnyZ_take (i := 5) (v := ?_) rfl (by kernel_rfl) (by kernel_rfl) (by kernel_rfl) (by kernel_rfl) (fun _ _ _ h => h) (Or.inl ⟨by rfl, ?_⟩) (by assumption) ?_
            rotate_left
            · intro w' hSw; go_simp; with_reducible rfl
            try simp only [Act.put, List.setIfInBounds_toArray, List.set_cons_zero, List.set_cons_succ]
            refine wpAnyZ_take (i := 6) (v := ?_) rfl (by kernel_rfl) (by kernel_rfl) (by kernel_rfl) (by kernel_rfl) (fun _ _ _ h => h) (Or.inl ⟨by rfl, ?_⟩) (by assumption) ?_
            rotate_left
            · intro w' hSw; go_simp; with_reducible rfl
            try simp only [Act.put, List.setIfInBounds_toArray, List.set_cons_zero, List.set_cons_succ]
            refine wpAnyZ_take (i := 7) (v := ?_) rfl (by kernel_rfl) (by kernel_rfl) (by kernel_rfl) (by kernel_rfl) (fun _ _ _ h => h) (Or.inl ⟨by rfl, ?_⟩) (by assumption) ?_
            rotate_left
            · intro w' hSw; go_simp; with_reducible rfl
            try simp only [Act.put, List.setIfInBounds_toArray, List.set_cons_zero, List.set_cons_succ]
            refine wpAnyZ_take (i := 8) (v := ?_) rfl (by kernel_rfl) (by kernel_rfl) (by kernel_rfl) (by kernel_rfl) (fun _ _ _ h => h) (Or.inl ⟨by rfl, ?_⟩) (by assumption) ?_
            rotate_left
            · intro w' hSw; go_simp; with_reducible rfl
            try simp only [Act.put, List.setIfInBounds_toArray, List.set_cons_zero, List.set_cons_succ]
            refine wpAnyZ_take (i := 9) (v := ?_) rfl (by kernel_rfl) (by kernel_rfl) (by kernel_rfl) (by kernel_rfl) (fun _ _ _ h => h) (Or.inl ⟨by rfl, ?_⟩) (by assumption) ?_
            rotate_left
            · intro w' hSw; go_simp; with_reducible rfl
            try simp only [Act.put, List.setIfInBounds_toArray, List.set_cons_zero, List.set_cons_succ]
            refine wpAnyZ_take (i := 10) (v := ?_) rfl (by kernel_rfl) (by kernel_rfl) (by kernel_rfl) (by kernel_rfl) (fun _ _ _ h => h) (Or.inl ⟨by rfl, ?_⟩) (by assumption) ?_
            rotate_left
            · intro w' hSw; go_simp; with_reducible rfl
            try simp only [Act.put, List.setIfInBounds_toArray, List.set_cons_zero, List.set_cons_succ]
            refine wpAnyZ_take (i := 11) (v := ?_) rfl (by kernel_rfl) (by kernel_rfl) (by kernel_rfl) (by kernel_rfl) (fun _ _ _ h => h) (Or.inl ⟨by rfl, ?_⟩) (by assumption) ?_
            rotate_left
            · intro w' hSw; go_simp; with_reducible rfl
            try simp only [Act.put, List.setIfInBounds_toArray, List.set_cons_zero, List.set_cons_succ]
            refine wpAnyZ_take (i := 12) (v := ?_) rfl (by kernel_rfl) (by kernel_rfl) (by kernel_rfl) (by kernel_rfl) (fun _ _ _ h => h) (Or.inl ⟨by rfl, ?_⟩) (by assumption) ?_
            rotate_left
            · intro w' hSw; go_simp; with_reducible rfl
            try simp only [Act.put, List.setIfInBounds_toArray, List.set_cons_zero, List.set_cons_succ]
            refine wpAnyZ_take (i := 13) (v := ?_) rfl (by kernel_rfl) (by kernel_rfl) (by kernel_rfl) (by kernel_rfl) (fun _ _ _ h => h) (Or.inl ⟨by rfl, ?_⟩) (by assumption) ?_
            rotate_left
            · intro w' hSw; go_simp; with_reducible rfl
            try simp only [Act.put, List.setIfInBounds_toArray, List.set_cons_zero, List.set_cons_succ]
            refine wpAnyZ_one (i := 14) (by kernel_rfl) rfl (fun K6 hK6 => ?_)
            go_simp
            refine hK6.out _ _ (fun h => absurd rfl h) (fun _ => ?_)
            refine wpAnyZ_done (by kernel_rfl) ?_ _
            gi_wp2
            have lV := bV.lt
            refine ⟨⟨q + 1, by omega, by simp, (r3.far (by simp; omega) _).dr, (r4.far (by simp; omega) _).dr, (r2.far (by simp; omega) _).dr, (r5.far (by simp; omega) _).dr, HST.out.1.drew, (rf.s (.inl rfl) _).d⟩, by simp [intOf]; omega⟩
          · obtain rfl : N = q := by omega
            have hfin : mixL raw mn N = spotsOf north cols east svs k := by rw [HSO.out]; simp [mixL, ← hrl]
            rw [hfin] at rr
            have hfs8 := fewSum_le north cols east svs k hl2
            have hw1 : IntKind.i64.wrap ((fewSum north cols east svs k : Int) + mn) = ((fewSum north cols east svs (k + 1) : Nat) : Int) := by
              rw [HFS.out, IntWalk.i64_in _ (by omega)]; omega
            gi_wp2
            refine wpIn_region_Z (l := none) (S := S16 (w.heap.size + 1 + 1) (w.heap.size + 1) (wk.heap.size + 1) (oc north cols (.slice ea east.length ec) lofts (.slice sa svs.length sc) wrong (fewSum north cols east svs k) (upd slv k (.slice (some ⟨gg, 0, none⟩) N cap))) mn) 8 9 rfl (by kernel_rfl) (fun ⟨_, _, h⟩ => by cases h.1) (by kernel_rfl) ⟨r3, r2, r5⟩ (fun hS => ?_)
            have f1 := fun W' (h : S16 (w.heap.size + 1 + 1) (w.heap.size + 1) (wk.heap.size + 1) (oc north cols (.slice ea east.length ec) lofts (.slice sa svs.length sc) wrong (fewSum north cols east svs k) (upd slv k (.slice (some ⟨gg, 0, none⟩) N cap))) mn W') => h.1.cell 0
            have f2 : ∀ W', S16 (w.heap.size + 1 + 1) (w.heap.size + 1) (wk.heap.size + 1) (oc north cols (.slice ea east.length ec) lofts (.slice sa svs.length sc) wrong (fewSum north cols east svs k) (upd slv k (.slice (some ⟨gg, 0, none⟩) N cap))) mn W' → W'.cell? ⟨w.heap.size + 1, 6, none⟩ = some (.int .i64 (fewSum north cols east svs k)) := fun W' h => h.2.1.cell 6
            have f3 := fun W' (h : S16 (w.heap.size + 1 + 1) (w.heap.size + 1) (wk.heap.size + 1) (oc north cols (.slice ea east.length ec) lofts (.slice sa svs.length sc) wrong (fewSum north cols east svs k) (upd slv k (.slice (some ⟨gg, 0, none⟩) N cap))) mn W') => h.2.2.cell 0
            refine wpAnyZ_take (i := 0) (v := ?_) rfl (by kernel_rfl) (by kernel_rfl) (by kernel_rfl) (by kernel_rfl) (fun _ _ _ h => h) (Or.inl ⟨by rfl, ?_⟩) (by assumption) ?_
            rotate_left
            · intro w' hSw; go_simp; with_reducible rfl
            try simp only [Act.put, List.setIfInBounds_toArray, List.set_cons_zero, List.set_cons_succ]
            refine wpAnyZ_take (i := 1) (v := ?_) rfl (by kernel_rfl) (by kernel_rfl) (by kernel_rfl) (by kernel_rfl) (fun _ _ _ h => h) (Or.inl ⟨by rfl, ?_⟩) (by assumption) ?_
            rotate_left
            · intro w' hSw; go_simp; with_reducible rfl
            try simp only [Act.put, List.setIfInBounds_toArray, List.set_cons_zero, List.set_cons_succ]
            refine wpAnyZ_take (i := 2) (v := ?_) rfl (by kernel_rfl) (by kernel_rfl) (by kernel_rfl) (by kernel_rfl) (fun _ _ _ h => h) (Or.inl ⟨by rfl, ?_⟩) (by assumption) ?_
            rotate_left
            · intro w' hSw; go_simp; with_reducible rfl
            try simp only [Act.put, List.setIfInBounds_toArray, List.set_cons_zero, List.set_cons_succ]
            refine wpAnyZ_take (i := 3) (v := ?_) rfl (by kernel_rfl) (by kernel_rfl) (by kernel_rfl) (by kernel_rfl) (fun _ _ _ h => h) (Or.inl ⟨by rfl, ?_⟩) (by assumption) ?_
            rotate_left
            · intro w' hSw; go_simp; with_reducible rfl
            try simp only [Act.put, List.setIfInBounds_toArray, List.set_cons_zero, List.set_cons_succ]
            refine wpAnyZ_take (i := 4) (v := ?_) rfl (by kernel_rfl) (by kernel_rfl) (by kernel_rfl) (by kernel_rfl) (fun _ _ _ h => h) (Or.inl ⟨by rfl, ?_⟩) (by assumption) ?_
            rotate_left
            · intro w' hSw; go_simp; with_reducible rfl
            try simp only [Act.put, List.setIfInBounds_toArray, List.set_cons_zero, List.set_cons_succ]
            refine wpAnyZ_take (i := 5) (v := ?_) rfl (by kernel_rfl) (by kernel_rfl) (by kernel_rfl) (by kernel_rfl) (fun _ _ _ h => h) (Or.inl ⟨by rfl, ?_⟩) (by assumption) ?_
            rotate_left
            · intro w' hSw; go_simp; with_reducible rfl
            try simp only [Act.put, List.setIfInBounds_toArray, List.set_cons_zero, List.set_cons_succ]
            refine wpAnyZ_take (i := 6) (v := ?_) rfl (by kernel_rfl) (by kernel_rfl) (by kernel_rfl) (by kernel_rfl) (fun _ _ _ h => h) (Or.inl ⟨by rfl, ?_⟩) (by assumption) ?_
            rotate_left
            · intro w' hSw; go_simp; with_reducible rfl
            try simp only [Act.put, List.setIfInBounds_toArray, List.set_cons_zero, List.set_cons_succ]
            refine wpAnyZ_take (i := 7) (v := ?_) rfl (by kernel_rfl) (by kernel_rfl) (by kernel_rfl) (by kernel_rfl) (fun _ _ _ h => h) (Or.inl ⟨by rfl, ?_⟩) (by assumption) ?_
            rotate_left
            · intro w' hSw; go_simp; with_reducible rfl
            try simp only [Act.put, List.setIfInBounds_toArray, List.set_cons_zero, List.set_cons_succ]
            have c6 : wr.cell? ⟨w.heap.size + 1, 6, none⟩ = some (.int .i64 (fewSum north cols east svs k)) := r2.cell 6
            have z6 := r2.frozen 6
            refine wpAnyZ_one (i := 8) (by kernel_rfl) rfl (fun K6 hK6 => ?_)
            go_simp
            refine hK6.out _ _ (fun h => absurd rfl h) (fun _ => ?_)
            refine wpAnyZ_done (by kernel_rfl) ?_ _
            clear hK6 K6 f1 f2 f3 hS c6 z6 hw1
            have hO := bO.lt
            have hV := bV.lt
            have hfE0 : Fr (fun i => i = w.heap.size + 1) wk wr := hf.t2 rf (fun i hi h => by omega)
            have hfE := hfE0.s (p := ⟨w.heap.size + 1, 6, none⟩) (.inl rfl) (.int .i64 ((fewSum north cols east svs (k + 1) : Nat) : Int))
            have rrE := rr.kept (grownBy_set wr ⟨w.heap.size + 1, 6, none⟩ (.int .i64 ((fewSum north cols east svs (k + 1) : Nat) : Int))) (.inr (own_ne rr r2 (by decide)).symm)
            have bME := (rf.blk b1 (by omega)).far (p := ⟨w.heap.size + 1, 6, none⟩) (by simp) (.int .i64 ((fewSum north cols east svs (k + 1) : Nat) : Int))
            have bVE := r3.far (p := ⟨w.heap.size + 1, 6, none⟩) (by simp) (.int .i64 ((fewSum north cols east svs (k + 1) : Nat) : Int))
            have bOE := r2.set_ 6 (.int .i64 ((fewSum north cols east svs (k + 1) : Nat) : Int))
            rw [oc_sum] at bOE
            have hDE : (wr.setCell ⟨w.heap.size + 1, 6, none⟩ (.int .i64 ((fewSum north cols east svs (k + 1) : Nat) : Int))).heap[D]? = some (.deferred (some [])) := by
              have h1 : wr.heap[D]? = some (.deferred (some [])) := (rf.block D (Array.getElem?_eq_some_iff.1 hDef').1 (by
                rintro rfl
                obtain ⟨c, t, f, e⟩ := own_cells hr (g := D) rfl
                rw [e] at hDef'; cases hDef')).trans hDef'
              refine (Below.heap_setCell _ _ _ _ ?_).trans h1
              rintro rfl
              rw [show wr.heap[w.heap.size + 1]? = _ from r2] at h1; cases h1
            have hGE : G w (wr.setCell ⟨w.heap.size + 1, 6, none⟩ (.int .i64 ((fewSum north cols east svs (k + 1) : Nat) : Int))) := ((G.fr hG).t hfE).toG (fun i hi h => by omega)
            generalize wr.setCell ⟨w.heap.size + 1, 6, none⟩ (.int .i64 ((fewSum north cols east svs (k + 1) : Nat) : Int)) = WE at *
            have hOI : OpenInv w north wrong cols lofts east svs ea sa ec sc (k + 1) WE.drew := by
              refine ⟨_, bME.dr, bOE.dr, bVE.dr, fun j hj => ?_, fun j hj => ?_, hGE.d⟩
              · unfold upd; rw [if_neg (by omega)]; exact hnil j (by omega)
              · unfold upd
                by_cases hjk : j = k
                · subst hjk
                  rw [if_pos rfl]
                  exact SpotsAt.of_row rrE.drew (hspl j)
                · rw [if_neg hjk]
                  have hsj := hsp j (by omega)
                  refine hsj.keep (W' := WE.drew) (fun g hg e => hfE.d.block g hg ?_) hfE.d.size
                  rintro rfl
                  obtain ⟨g', cap', hv', _, hc'⟩ := hsj
                  rw [hv'] at e
                  obtain rfl : g' = w.heap.size + 1 := by simpa [Value.ownBlock] using e
                  have h2 := (hc' 0 (by rw [hspl j]; omega)).2.2
                  have h3 := bO.cell 2
                  rw [show 0 * 3 + 2 = 2 from rfl] at h2
                  rw [h2] at h3
                  cases h3
            have hMkE : Marks w.heap.size (D :: Ds) WE.drew := by
              have hDb : ∀ D', D' ∈ Ds → D' < wk.heap.size := fun D' h => (Array.getElem?_eq_some_iff.1 (hMk.2 D' h).2).1
              refine ⟨List.nodup_cons.2 ⟨fun h => ?_, hMk.1⟩, fun D' h => ?_⟩
              · have := hDb D h
                simp at hD
                omega
              · rcases List.mem_cons.1 h with rfl | h
                · refine ⟨?_, hDE⟩
                  simp at hD
                  omega
                · refine ⟨(hMk.2 D' h).1, (hfE.d.block D' (hDb D' h) ?_).trans (hMk.2 D' h).2⟩
                  rintro rfl
                  have h1 := (hMk.2 _ h).2
                  rw [show wk.heap[w.heap.size + 1]? = _ from bO] at h1; cases h1
            gi_wp2
            rw [show ((k : Int) + 1) = ((k + 1 : Nat) : Int) from rfl]
            refine ⟨⟨k + 1, D :: Ds, ?_⟩, ?_⟩
            · repeat apply Exists.intro
              exact ⟨⟨by omega, hOI, hMkE⟩, rfl⟩
            · show lofts - (k + 1) < lofts - k
              omega
      case stop =>
        rintro D c pre W _ _ h _
        exact h.elim
    · obtain rfl : lofts = k := by omega
      have mV := bV.cell 0
      have hOI : OpenInv w north wrong cols lofts east svs ea sa ec sc lofts wr := ⟨slv, bM, bO, bV, hnil, hsp, hG⟩
      gi_wp2
      refine leaves_marks Ds wr hMk (fun w' hw' => ?_)
      refine ⟨_, results_tmp rfl _ _ _, rfl, ?_⟩
      refine hOI.marks hMk (fun j => ?_) hw'
      have hbd := vm_bounds hv
      have hN1 : 1 ≤ (allP cols east.length).length := by
        rw [allP_len]; exact Nat.mul_le_mul (show 1 ≤ east.length by omega) (show 1 ≤ cols by omega)
      simp only [spotsOf, List.length_map]
      omega
end Go.Proofs.Ytdneehbhncekaaa
set_option linter.unusedSimpArgs false
set_option linter.unusedVariables false
namespace Go.Proofs.Ytdneehbhncekaaa
open Go.RowKit Go.Shelf
attribute [local go_sem] Oper.semAt_some wide_fn wide_dep

/-- ints at a block -/
def IntsIn (W : World) (g off : Nat) (ls : List Int) : Prop := ∀ k, k < ls.length → W.cell? ⟨g, off + k, none⟩ = some (.int .i64 (ls.getD k 0))
theorem IntsIn.kb {A W : World} {g off : Nat} {ls : List Int} (h : IntsIn A g off ls) (hk : KB g A W) : IntsIn W g off ls :=
  fun k hl => (World.cell?_of_block (a := ⟨g, off + k, none⟩) hk).trans (h k hl)

set_option maxRecDepth 100000 in
set_option maxHeartbeats 2000000 in
theorem vals_in (F : Fence) (n : Nat) (h105 : F.fn 57) (hro : F.round = none) (hn : 1 ≤ n) (l B g off cap : Nat) (ls : List Int) (hlen : ls.length ≤ 4611686018427387904)
    (J Jx : List Int → World → Prop)
    (hY : ∀ pre x W, J pre W → pre.length < ls.length → YieldAt F (n - 1) Try.prog l #[.int .i64 x] W fun e W' =>
      (e = .returned (.bool true) ∧ J (pre ++ [x]) W' ∧ KB g W W') ∨ (e = .returned (.bool false) ∧ Jx (pre ++ [x]) W'))
    (W : World) (hBs : Blk W B 22 #[.slice (some ⟨g, off, none⟩) ls.length cap]) (hI : IntsIn W g off ls) (h0 : J [] W) :
    CallsIn F n Try.prog 57 #[.func (.yield l) #[] #[], .pointer (some ⟨B, 0, none⟩)] W fun e W' => (∃ v, e = .returned v) ∧
      ((∃ ys, ys = ls ∧ J ys W') ∨ (∃ pre, pre <+: ls ∧ Jx pre W')) := by
  have c0 : W.cell? ⟨B, 0, none⟩ = some (.slice (some ⟨g, off, none⟩) ls.length cap) := hBs.cell 0
  refine callsIn_of_wp Try.func57 rfl h105 ?_ hro
  simp only [Try.ntmps57, List.size_toArray, List.length_cons, List.length_nil, Nat.reduceAdd, Nat.reduceSub, Array.replicate_succ, Array.replicate_zero, List.push_toArray, List.append_toArray, List.nil_append, List.cons_append]
  gi_wp2
  gi_loopw [7] (fun i wr => ∃ y : Nat, y ≤ ls.length ∧ i = .int .i64 y ∧ J (ls.take y) wr ∧ KB g W wr)
    (fun i _ => ls.length - (intOf i).toNat)
  case atStart => exact ⟨0, Nat.zero_le _, rfl, h0, KB.rf _ _⟩
  case round =>
    obtain ⟨y, hy, rfl, hJs, hnx⟩ := hrel
    by_cases hlt : y < ls.length
    · have hx : wr.cell? ⟨g, off + y, none⟩ = some (.int .i64 (ls.getD y 0)) := (hI.kb hnx) y hlt
      have hyi : (y : Int) < ls.length := by omega
      have hsn : ls.take (y + 1) = ls.take y ++ [ls.getD y 0] := by
        rw [List.take_succ_eq_append_getElem hlt]; simp [hlt]
      generalize ls.getD y 0 = x at hx hsn
      have HSN := Lib.hid hsn
      clear hsn
      have hpl : (ls.take y).length < ls.length := by simp; omega
      obtain ⟨fn, tmps, assign, body, hy', hR⟩ := hY _ x _ hJs hpl
      gi_wp2
      refine hR.mono ?_
      rintro e W3 (⟨rfl, hJ3, hk3⟩ | ⟨rfl, hJx3⟩)
      · gi_wp2
        go_roundw
        case rel => exact ⟨y + 1, by omega, by simp, by rw [HSN.out]; exact hJ3, hnx.t hk3⟩
        case measure => simp [intOf]; omega
      · gi_wp2
        refine bodyPost_ret (results_none rfl _ _ _) rfl ?_
        exact ⟨⟨_, rfl⟩, .inr ⟨_, by rw [← HSN.out]; exact List.take_prefix _ _, hJx3⟩⟩
    · have hta : ls.take y = ls := List.take_of_length_le (by omega)
      rw [hta] at hJs
      gi_wp2
      go_end0
      exact ⟨⟨_, rfl⟩, .inl ⟨_, rfl, hJs⟩⟩

theorem Values_any (a : Option Addr) (k c : Nat) (w : World) :
    Calls Try.prog 34 #[.slice a k c] w fun e w' => e = .returned (.func (.func 57) #[] #[.pointer (some ⟨w.heap.size, 0, none⟩)]) ∧ w' = w.alloc (.cells #[.slice a k c] 22) := by
  go_enter Try.func34, Try.ntmps34
  go_wp2
  go_ret
  exact ⟨rfl, rfl⟩
end Go.Proofs.Ytdneehbhncekaaa
set_option linter.unusedSimpArgs false
set_option linter.unusedVariables false
namespace Go.Proofs.Ytdneehbhncekaaa
open Go.RowKit Go.Shelf
attribute [local go_sem] Oper.semAt_some wide_fn wide_dep wideR_fn wideR_dep

section
variable {F : Fence} {n : Nat} {P : Program}
/-- a range over a function whose one loop variable is a slot: tb -/
theorem rangeFunc_var {α : Type} {g : Operand} {tv : Tmp} {assign body : Code} {Q : Exit → Act → World → Prop} {a : Act} {w : World}
    (hro : F.round = none) (h1 : 1 ≤ n) {gf : Nat} {lb : Array Value} (hg : a.eval g = .func (.func gf) #[] lb) (hFg : F.fn gf) (eg : ∀ args w, (callFunc gf args).run P w = .ok (.enter gf args) w)
    {ev : α → Value} {B : Nat} {S Sp : List α → Prop} {N : Nat} {w0 : World} (hseq : SeqStopsK F (n - 1) P gf lb (fun x => #[ev x]) (KB B) S Sp N w0)
    (hB : B < w.heap.size) (hb0 : Below w0.heap.size w0 w)
    (I : List α → World → Prop) (Ix : Code → List α → World → Prop) (hI : OwnFrom w.heap.size I) (hIx : ∀ c, OwnFrom w.heap.size (Ix c)) (h0 : I [] w)
    (tb : Tmp)
    (hassign : ∀ (l : Nat) (x : α) (W : World) (K : Act → World → Prop), K { tmps := (a.tmps.setIfInBounds tv (ev x)).setIfInBounds tb (ev x), defers := [] } W →
      assign.wpIn (F.inRound l) (n - 1 - 1) P (Exit.then K (fun _ _ _ => False)) { tmps := a.tmps.setIfInBounds tv (ev x), defers := [] } W)
    (hbody : ∀ (l : Nat) (pre : List α) (x : α) (W : World), w.heap.size ≤ l → (∃ r, W.heap[l]? = some (.loop r)) → I pre W → pre.length < N →
      body.wpIn (F.inRound l) (n - 1 - 1) P (ownPostG w.heap.size (KB B) I Ix (pre ++ [x]) W) { tmps := (a.tmps.setIfInBounds tv (ev x)).setIfInBounds tb (ev x), defers := [] } W)
    (hdone : ∀ (D : Nat) (xs : List α) (W : World), w.heap.size ≤ D → S xs → I xs W → W.heap[D]? = some (.deferred (some [])) → Q .normal { a with defers := { target := .collected D, args := #[] } :: a.defers } W)
    (hstop : ∀ (D : Nat) (c : Code) (pre : List α) (W : World), w.heap.size ≤ D → Sp pre → Ix c pre W → W.heap[D]? = some (.deferred (some [])) → c.wpIn F n P Q { a with defers := { target := .collected D, args := #[] } :: a.defers } W) :
    (Code.rangeFunc g #[tv] assign body).wpIn F n P Q a w := by
  refine wpIn_rangeFunc_ownH hro h1 hg hFg eg hseq (fun h k => KB.t h k) (KB.b hB) hb0 (fun _ => rfl) I Ix hI hIx h0
    (fun x a' _ => a' = { tmps := (a.tmps.setIfInBounds tv (ev x)).setIfInBounds tb (ev x), defers := [] })
    ?_ ?_ ?_ hdone hstop
  · rintro x a' _ X Y row h _ _
    exact h
  · intro l pre x W K hi hK
    have e : ((#[tv] : Array Tmp).zip #[ev x]).foldl (fun t (p, v) => t.setIfInBounds p v) a.tmps = a.tmps.setIfInBounds tv (ev x) := by simp
    rw [e]
    exact hassign l x W K (hK _ _ ((KeepsOthers.refl W).from _) (KB.rf _ _) hi rfl)
  · rintro l pre x a' W hl hr hi rfl hN
    exact hbody l pre x W hl hr hi hN
end

theorem own_weaken {W : World} {base base' : Nat} {e : TypeId} {size k : Nat} {v : Value} {xs : List Value} (h : W.ownsRow base e size v k xs) (hb : base' ≤ base) : W.ownsRow base' e size v k xs := by
  refine ⟨h.1, ?_⟩
  rcases h.2 with h' | ⟨g, cap, cur, h1, h2, h3⟩
  · exact .inl h'
  · exact .inr ⟨g, cap, cur, h1, Nat.le_trans hb h2, h3⟩
theorem cell_one_new (w : World) (t : TypeId) (v : Value) : ∀ j u, [v][j]? = some u → (w.alloc (.cells #[v] t)).cell? ((⟨w.heap.size, 0, none⟩ : Addr).add j) = some u :=
  World.news_of_block (cs := #[v]) (t := t) (fr := (0, 0)) (heap_alloc_new w _)
theorem vals_stops (n : Nat) (hn : 1 ≤ n) (B g off cap : Nat) (ls : List Int) (hlen : ls.length ≤ 4611686018427387904) (w : World) (hBs : Blk w B 22 #[.slice (some ⟨g, off, none⟩) ls.length cap]) (hg : g < w.heap.size) (hI : IntsIn w g off ls) :
    SeqStopsK Fence.wide n Try.prog 57 #[.pointer (some ⟨B, 0, none⟩)] (fun x : Int => #[.int .i64 x]) (KB g) (fun ys => ys = ls) (fun pre => pre <+: ls) ls.length w :=
  fun l J Jx W hW _ _ hY h0 => vals_in Fence.wide n trivial rfl hn l B g off cap ls hlen J Jx hY W (hBs.keep hW) (hI.kb (hW.block g hg)) h0

def ApInv (w : World) (pre : List Int) (W : World) : Prop :=
  ∃ v, Blk W w.heap.size 22 #[v] ∧ W.ownsRow (w.heap.size + 1) 3 1 v pre.length (pre.map (Value.int .i64)) ∧ G w W ∧ w.heap.size + 1 ≤ W.heap.size
theorem apInv_own (w : World) (B : Nat) (hB : w.heap.size + 1 ≤ B) : OwnFrom B (ApInv w) := by
  rintro pre X Y row ⟨v, b1, hr, hG, hs⟩ hg hrow
  have hn : some w.heap.size ≠ row := fun e => by
    obtain ⟨_, o, ho, hc⟩ := hrow _ e.symm
    rw [show X.heap[w.heap.size]? = _ from b1] at ho; cases ho; cases hc
  exact ⟨v, b1.grown hg hn, ownsRow_kept' hr hg (fun r e => (hrow r e).2), (((G.fr (R := fun _ => False) hG).grown hg (fun g e => .inr (by have := (hrow g e).1; omega)))).toG (fun _ _ h => h), Nat.le_trans hs hg.size⟩

theorem info3 : (Try.prog.info? 3).map (fun i => (i.zero, i.size, i.bytes)) = some (some (.int .i64 0), 1, 8) := by kernel_rfl

set_option maxRecDepth 100000 in
set_option maxHeartbeats 2000000 in
theorem appendSeq_in (n : Nat) (hn : 3 ≤ n) (B g off cap : Nat) (ls : List Int) (hlen : ls.length ≤ 1000000) (w : World) (hBs : Blk w B 22 #[.slice (some ⟨g, off, none⟩) ls.length cap]) (hg : g < w.heap.size) (hI : IntsIn w g off ls) :
    CallsIn Fence.wide n Try.prog 71 #[.slice none 0 0, .func (.func 57) #[] #[.pointer (some ⟨B, 0, none⟩)]] w fun e w' =>
      ∃ v, e = .returned v ∧ w'.ownsRow w.heap.size 3 1 v ls.length (ls.map (Value.int .i64)) ∧ G w w' := by
  refine callsIn_of_wp_marks Try.func71 rfl trivial ?_ rfl
  simp only [Try.ntmps71, List.size_toArray, List.length_cons, List.length_nil, Nat.reduceAdd, Nat.reduceSub, Array.replicate_succ, Array.replicate_zero, List.push_toArray, List.append_toArray, List.nil_append, List.cons_append]
  gi_wp2
  refine rangeFunc_var (F := Fence.wide) (α := Int) (gf := 57) (lb := #[.pointer (some ⟨B, 0, none⟩)]) rfl (by omega) rfl trivial (enters_of Try.func57 (by kernel_rfl) rfl)
    (ev := fun x => .int .i64 x) (B := g) (vals_stops (n - 1) (by omega) B g off cap ls (by omega) (w.alloc (.cells #[.slice none 0 0] 22)) (hBs.alloc _) (by simp; omega) (hI.kb (Below.heap_alloc _ _ _ hg)))
    (by simp; omega) (Below.refl _ _) (ApInv w) (fun _ _ _ => False) (apInv_own _ _ (by simp)) (fun _ _ _ _ _ h _ _ => h) ?h0 5 ?assign ?body ?done ?stop
  case h0 => exact ⟨_, Blk.new _ _ _, World.ownsRow_nil _ _ _ _, (G.rf _).a _, by simp⟩
  case assign =>
    intro l x W K hK
    gi_wp2
    exact hK
  case body =>
    rintro l pre x W hl hrec ⟨v, b1, hr, hG, hs⟩ hN
    obtain ⟨i0, hi0, hz0, hz1, hz2⟩ := info_parts info3
    have c0 := b1.cell 0
    have lA := b1.lt
    have nA := own_ne hr b1 (by decide)
    gi_wp2_with (gi_at_builtin; refine wpListIn_append_own _ rfl _ _ 22 rfl (w.heap.size + 1) 3 i0 (.int .i64 0) 1 8 Try.underlying22 hi0 hz0 hz1 hz2 rfl (by decide) _ _ _ rfl (hr.alloc _) ⟨W.heap.size, 0, none⟩ 1 1 [.int .i64 x] rfl rfl (cell_one_new _ _ _) (by simp [Value.oneCell']) (by unfold maxLen; omega) (by omega) (by simp; omega) ?_; intro v' w3 hown' hg3 hnil3; have b3 := (b1.alloc (.cells #[.int .i64 x] 3)).grown hg3 nA; have c3 := b3.cell 0; have z3 := b3.frozen 0; obtain ⟨g', cap', rfl⟩ : ∃ g' cap', v' = .slice (some ⟨g', 0, none⟩) (pre.length + 1) cap' := (by
         rcases hown'.2 with ⟨_, h0⟩ | ⟨g', cap', _, h1, _⟩
         · exact absurd h0 (by omega)
         · exact ⟨g', cap', h1⟩); go_frame)
    have bE := b3.set_ 0 (.slice (some ⟨g', 0, none⟩) (pre.length + 1) cap')
    have hownE := hown'.kept (grownBy_set w3 ⟨w.heap.size, 0, none⟩ (.slice (some ⟨g', 0, none⟩) (pre.length + 1) cap')) (.inr (own_ne hown' b3 (by decide)).symm)
    have frE : Fr (fun i => i = w.heap.size ∨ v.ownBlock = some i) W (w3.setCell ⟨w.heap.size, 0, none⟩ (.slice (some ⟨g', 0, none⟩) (pre.length + 1) cap')) :=
      (((Fr.rf _ W).a _).grown hg3 (fun g e => .inl (.inr e))).s (.inl (.inl rfl)) _
    generalize w3.setCell ⟨w.heap.size, 0, none⟩ (.slice (some ⟨g', 0, none⟩) (pre.length + 1) cap') = wE at *
    have hB3 : ∀ i, v.ownBlock = some i → w.heap.size + 1 ≤ i := fun i h => own_base hr h
    refine ⟨frE.keeps ?_ _, frE.kb (by omega) ?_, ?_⟩
    · rintro i (rfl | h) _
      · exact ⟨_, _, _, b1⟩
      · exact own_cells hr h
    · rintro (h | h)
      · omega
      · have := hB3 _ h; omega
    · refine ⟨_, bE, by simpa using hownE, ((G.fr (R := fun _ => False) hG).t2 frE (fun i hi h => ?_)).toG (fun _ _ h => h), Nat.le_trans hs frE.size⟩
      rcases h with h | h
      · omega
      · have := hB3 _ h; omega
  case done =>
    rintro D xs W hD rfl ⟨v, b1, hr, hG, hs⟩ hDef
    have c0 := b1.cell 0
    gi_wp2
    refine ⟨by simp, .inl ⟨_, _, rfl, run_takeDeferred hDef, ?_⟩⟩
    refine ⟨_, results_tmp rfl _ _ _, _, rfl, ?_, ?_⟩
    · exact own_weaken (ownsRow_kept' (row := some D) hr ⟨rfl, rfl, rfl, by simp [World.putObj], fun i _ hn => World.putObj_heap_other (fun e => hn (by rw [e]))⟩ (fun r e => by cases e; exact ⟨_, hDef, rfl⟩)) (by omega)
    · have hf : Fr (fun i => i = D) W (W.putObj D (.deferred none)) := ⟨rfl, rfl, rfl, by simp [World.putObj], fun i _ hn => World.putObj_heap_other hn⟩
      refine ((G.fr (R := fun _ => False) hG).t2 hf (fun i hi h => ?_)).toG (fun _ _ h => h)
      simp at hD
      omega
  case stop =>
    rintro D c pre W _ _ h _
    exact h.elim
end Go.Proofs.Ytdneehbhncekaaa
set_option linter.unusedSimpArgs false
set_option linter.unusedVariables false
namespace Go.Proofs.Ytdneehbhncekaaa
open Go.RowKit Go.Shelf

/-- what an iterator does by itself: it may lay blocks, and write those cells of its own (from B on) that are of a type in T -/
structure Kt (T : TypeId → Prop) (B : Nat) (X Y : World) : Prop where
  os : Y.os = X.os
  tape : Y.tape = X.tape
  output : Y.output = X.output
  size : X.heap.size ≤ Y.heap.size
  block : ∀ i o, X.heap[i]? = some o → (i < B ∨ ∀ c t f, o = .cells c t f → ¬ T t) → Y.heap[i]? = some o
section
variable {T : TypeId → Prop} {B : Nat} {X Y Z : World}
theorem Kt.rf (T : TypeId → Prop) (B : Nat) (X : World) : Kt T B X X := ⟨rfl, rfl, rfl, Nat.le_refl _, fun _ _ h _ => h⟩
theorem Kt.t (h : Kt T B X Y) (k : Kt T B Y Z) : Kt T B X Z := ⟨k.os.trans h.os, k.tape.trans h.tape, k.output.trans h.output, Nat.le_trans h.size k.size, fun i o hi hc => k.block i o (h.block i o hi hc) hc⟩
theorem G.kt (h : G X Y) : Kt T B X Y := ⟨h.os, h.tape, h.output, h.size, fun i o hi _ => (h.block i (Array.getElem?_eq_some_iff.1 hi).1).trans hi⟩
theorem Kt.blk {g : Nat} {t : TypeId} {cs : Array Value} (h : Kt T B X Y) (b : Blk X g t cs) (hb : g < B ∨ ¬ T t) : Blk Y g t cs :=
  h.block g _ b (hb.elim .inl (fun ht => .inr (fun c t' f e => by cases e; exact ht)))
/-- a store into a block of the iterator's own -/
theorem Kt.set {g i : Nat} {t : TypeId} {cs : Array Value} (b : Blk X g t cs) (hB : B ≤ g) (hT : T t) (v : Value) : Kt T B X (X.setCell ⟨g, i, none⟩ v) :=
  ⟨rfl, rfl, rfl, by simp [World.setCell], fun k o hk hc => (Below.heap_setCell X _ v k (fun e => by
    have e' : k = g := e
    rw [e', show X.heap[g]? = _ from b] at hk
    cases hk
    rcases hc with h | h
    · omega
    · exact h _ _ _ rfl hT)).trans hk⟩
end
def StableT {β : Type} (T : TypeId → Prop) (B : Nat) (J : β → World → Prop) : Prop := ∀ s X Y, J s X → Kt T B X Y → J s Y

/-- the contract of an iterator that writes cells of its own -/
def SeqT {α : Type} (T : TypeId → Prop) (F : Fence) (n : Nat) (P : Program) (g : Nat) (lb : Array Value) (ev : α → Value) (Kp : World → World → Prop) (S Sp : List α → Prop) (N : Nat) (w : World) : Prop :=
  ∀ (l : Nat) (J Jx : List α → World → Prop) (W : World), G w W → StableT T W.heap.size J → StableT T W.heap.size Jx →
    (∀ pre x W1, J pre W1 → pre.length < N → YieldAt F (n - 1) P l #[ev x] W1 fun e W' => (e = .returned (.bool true) ∧ J (pre ++ [x]) W' ∧ Kp W1 W') ∨ (e = .returned (.bool false) ∧ Jx (pre ++ [x]) W')) →
    J [] W → CallsIn F n P g (#[.func (.yield l) #[] #[]] ++ lb) W fun e W' => (∃ v, e = .returned v) ∧ ((∃ xs, S xs ∧ J xs W') ∨ (∃ pre, Sp pre ∧ Jx pre W'))

/-- the loop's record and the block for the rounds' deferred calls -/
def Bk (l D : Nat) (r : Loop) (W : World) : Prop := W.heap[l]? = some (.loop r) ∧ W.heap[D]? = some (.deferred (some []))
section
variable {l D B : Nat} {r r' : Loop} {X Y : World} {T : TypeId → Prop}
theorem Bk.kt (h : Bk l D r X) (k : Kt T B X Y) : Bk l D r Y := ⟨k.block _ _ h.1 (.inr (fun _ _ _ e => by cases e)), k.block _ _ h.2 (.inr (fun _ _ _ e => by cases e))⟩
theorem Bk.keeps (h : Bk l D r X) (k : KeepsFrom B X Y) (hl : B ≤ l) (hD : B ≤ D) : Bk l D r Y := ⟨k.same _ _ hl h.1 rfl, k.same _ _ hD h.2 rfl⟩
theorem Bk.put (h : Bk l D r X) (hn : D ≠ l) (r' : Loop) : Bk l D r' (X.putObj l (.loop r')) := ⟨World.putObj_heap_same (Array.getElem?_eq_some_iff.1 h.1).1, (World.putObj_heap_other hn).trans h.2⟩
end

section
variable {F : Fence} {n : Nat} {P : Program}
/-- a range over a function that writes cells of its own; the loop variable is boxed, its box's address is in slot tb -/
theorem rangeFunc_T {α : Type} {T : TypeId → Prop} {g : Operand} {tv : Tmp} {assign body : Code} {Q : Exit → Act → World → Prop} {a : Act} {w : World}
    (hro : F.round = none) (h1 : 1 ≤ n) {gf : Nat} {lb : Array Value} (hg : a.eval g = .func (.func gf) #[] lb) (hFg : F.fn gf) (eg : ∀ args w, (callFunc gf args).run P w = .ok (.enter gf args) w)
    {ev : α → Value} {Kp : World → World → Prop} {S Sp : List α → Prop} {N : Nat} {w0 : World} (hseq : SeqT T F (n - 1) P gf lb ev Kp S Sp N w0) (hb0 : G w0 w)
    (hKt : ∀ {A B C : World}, Kp A B → Kp B C → Kp A C) (hKb : ∀ (W : World) (l : Nat) (o o' : Obj), w.heap.size ≤ l → W.heap[l]? = some o → o.isCells = false → Kp W (W.putObj l o')) (hKa : ∀ W o, Kp W (W.alloc o))
    (I : List α → World → Prop) (Ix : Code → List α → World → Prop) (hI : OwnFrom w.heap.size I) (hIx : ∀ c, OwnFrom w.heap.size (Ix c)) (hIT : ∀ B, w.heap.size ≤ B → StableT T B I) (hIxT : ∀ c B, w.heap.size ≤ B → StableT T B (Ix c)) (h0 : I [] w)
    (tb : Tmp) (tt : TypeId) (bx : α → Array Value)
    (hassign : ∀ (l : Nat) (x : α) (W : World) (K : Act → World → Prop), K { tmps := (a.tmps.setIfInBounds tv (ev x)).setIfInBounds tb (.pointer (some ⟨W.heap.size, 0, none⟩)), defers := [] } (W.alloc (.cells (bx x) tt)) →
      assign.wpIn (F.inRound l) (n - 1 - 1) P (Exit.then K (fun _ _ _ => False)) { tmps := a.tmps.setIfInBounds tv (ev x), defers := [] } W)
    (hbody : ∀ (l : Nat) (pre : List α) (x : α) (Bp : Nat) (W : World), I pre W → w.heap.size ≤ Bp → Blk W Bp tt (bx x) → pre.length < N →
      body.wpIn (F.inRound l) (n - 1 - 1) P (ownPostG w.heap.size Kp I Ix (pre ++ [x]) W) { tmps := (a.tmps.setIfInBounds tv (ev x)).setIfInBounds tb (.pointer (some ⟨Bp, 0, none⟩)), defers := [] } W)
    (hdone : ∀ (D : Nat) (xs : List α) (W : World), w.heap.size ≤ D → S xs → I xs W → W.heap[D]? = some (.deferred (some [])) → Q .normal { a with defers := { target := .collected D, args := #[] } :: a.defers } W)
    (hstop : ∀ (D : Nat) (c : Code) (pre : List α) (W : World), w.heap.size ≤ D → Sp pre → Ix c pre W → W.heap[D]? = some (.deferred (some [])) → c.wpIn F n P Q { a with defers := { target := .collected D, args := #[] } :: a.defers } W) :
    (Code.rangeFunc g #[tv] assign body).wpIn F n P Q a w := by
  refine wpIn_rangeFunc (fun fn hfn => ?_)
  rw [hro]
  obtain ⟨D, hD⟩ : ∃ D, D = w.heap.size := ⟨_, rfl⟩
  obtain ⟨rc, hrc⟩ : ∃ rc : LoopState → Option Code → Loop, ∀ s c, rc s c = { state := s, pending := c, fn := fn, tmps := a.tmps, params := #[tv], assign := assign, body := body, defers := D } := ⟨fun s c => _, fun _ _ => rfl⟩
  have hent := run_enterLoop_outer (P := P) (w := w) fn a.tmps #[tv] assign body
  rw [← hD, ← hrc] at hent
  have hG1 : G w ((w.alloc (.deferred (some []))).alloc (.loop (rc .ready none))) := ((G.rf w).a _).a _
  have hB1 : Bk (D + 1) D (rc .ready none) ((w.alloc (.deferred (some []))).alloc (.loop (rc .ready none))) := by
    subst hD
    refine ⟨?_, (Below.heap_alloc _ _ _ (by simp)).trans (World.alloc_heap_new w _)⟩
    have := World.alloc_heap_new (w.alloc (.deferred (some []))) (.loop (rc .ready none))
    rwa [World.size_alloc] at this
  have hI1 : I [] ((w.alloc (.deferred (some []))).alloc (.loop (rc .ready none))) := hI.alloc _ (hI.alloc _ h0)
  generalize (w.alloc (.deferred (some []))).alloc (.loop (rc .ready none)) = W1 at *
  refine ⟨D + 1, [{ target := .collected D, args := #[] }], W1, { target := .fn (.func gf) lb, args := #[.func (.yield (D + 1)) #[] #[]] }, W1, gf, #[.func (.yield (D + 1)) #[] #[]] ++ lb, W1, hent, ?_, ?_, ?_, fun _ => h1, ?_⟩
  · simp only [resolve, hg]; simp [go_sem]
  · intro f' hf'; simp [Target.leads] at hf'; subst hf'; exact hFg
  · simp [invoke, go_sem, eg]
  refine (hseq (D + 1) (fun pre W => I pre W ∧ Bk (D + 1) D (rc .ready none) W) (fun pre W => ∃ c, Ix c pre W ∧ Bk (D + 1) D (rc .done (some c)) W) W1 (hb0.t hG1)
    (fun s A C h k => ⟨hIT _ hG1.size s A C h.1 k, h.2.kt k⟩) (fun s A C ⟨c, h, hb⟩ k => ⟨c, hIxT c _ hG1.size s A C h k, hb.kt k⟩) ?_ ⟨hI1, hB1⟩).mono ?_
  · rintro pre x W ⟨hi, hb⟩ hlen
    have hy := run_yield (P := P) (args := #[ev x]) hb.1 (by rw [hrc]; rfl)
    rw [hrc] at hy
    refine ⟨fn, _, assign, body, hy, roundIn_of_wpIn hfn ?_⟩
    have e : ((#[tv] : Array Tmp).zip #[ev x]).foldl (fun t (p, v) => t.setIfInBounds p v) a.tmps = a.tmps.setIfInBounds tv (ev x) := by simp
    rw [e]
    refine hassign _ x W _ ?_
    have hlt : D + 1 < W.heap.size := (Array.getElem?_eq_some_iff.1 hb.1).1
    have hbA : Bk (D + 1) D (rc .ready none) (W.alloc (.cells (bx x) tt)) := hb.kt (T := fun _ => False) (B := 0) (G.kt ((G.rf W).a _))
    refine ⟨_, run_beginRound hbA.1 (by rw [hrc]), ?_⟩
    have hbB := hbA.put (by omega) { rc .ready none with state := .busy }
    have hxB : Blk ((W.alloc (.cells (bx x) tt)).putObj (D + 1) (.loop { rc .ready none with state := .busy })) W.heap.size tt (bx x) := (World.putObj_heap_other (by omega)).trans (Blk.new W tt (bx x))
    have hKB : Kp W ((W.alloc (.cells (bx x) tt)).putObj (D + 1) (.loop { rc .ready none with state := .busy })) := hKt (hKa W _) (hKb _ _ _ _ (by omega) hbA.1 rfl)
    have hIB := hI.putObj (.loop { rc .ready none with state := .busy }) (hI.alloc (.cells (bx x) tt) hi) (by omega) hbA.1 rfl
    refine wpIn_mono (hbody _ pre x _ _ hIB (by omega) hxB hlen) ?_
    have fin : ∀ (j : Option Code) (W3 : World), KeepsFrom w.heap.size ((W.alloc (.cells (bx x) tt)).putObj (D + 1) (.loop { rc .ready none with state := .busy })) W3 →
        (Instr.endRound (D + 1) j).run P W3 = .ok (.bool j.isNone) (W3.putObj (D + 1) (.loop (rc (if j.isNone then .ready else .done) j))) ∧ W3.heap[D + 1]? = some (.loop { rc .ready none with state := .busy }) ∧ Bk (D + 1) D (rc (if j.isNone then .ready else .done) j) (W3.putObj (D + 1) (.loop (rc (if j.isNone then .ready else .done) j))) := fun j W3 hk => by
      have hb3 := hbB.keeps hk (by omega) (by omega)
      have h := run_endRound (P := P) j hb3.1
      refine ⟨?_, hb3.1, hb3.put (by omega) _⟩
      rw [hrc] at h ⊢
      exact h
    rintro e a3 W3 hp
    cases e with
    | normal =>
      obtain ⟨hk, hkp, hi3⟩ := hp
      obtain ⟨hr, hl3, hb3⟩ := fin none W3 hk
      exact ⟨_, _, hr, .inl ⟨rfl, ⟨hI.putObj _ hi3 (by omega) hl3 rfl, hb3⟩, hKt hKB (hKt hkp (hKb _ _ _ _ (by omega) hl3 rfl))⟩⟩
    | ret =>
      obtain ⟨hk, hi3⟩ := hp
      obtain ⟨hr, hl3, hb3⟩ := fin (some .ret) W3 hk
      exact ⟨_, _, hr, .inr ⟨rfl, .ret, (hIx _).putObj _ hi3 (by omega) hl3 rfl, hb3⟩⟩
    | exit id =>
      obtain ⟨hk, hi3⟩ := hp
      obtain ⟨hr, hl3, hb3⟩ := fin (some (.exit id)) W3 hk
      exact ⟨_, _, hr, .inr ⟨rfl, .exit id, (hIx _).putObj _ hi3 (by omega) hl3 rfl, hb3⟩⟩
    | goto t =>
      obtain ⟨hk, hi3⟩ := hp
      obtain ⟨hr, hl3, hb3⟩ := fin (some (.goto t)) W3 hk
      exact ⟨_, _, hr, .inr ⟨rfl, .goto t, (hIx _).putObj _ hi3 (by omega) hl3 rfl, hb3⟩⟩
    | panic ch => exact hp.elim
    | outgrown => exact hp.elim
  · rintro e W2 ⟨⟨v, rfl⟩, (⟨xs, hS, hi, hb⟩ | ⟨pre, hSp, c, hi, hb⟩)⟩
    · have h := run_endLoop (P := P) hb.1 (by rw [hrc]; simp)
      rw [hrc] at h
      exact ⟨none, _, h, hdone _ xs _ (by omega) hS (hI.putObj _ hi (by omega) hb.1 rfl) ((World.putObj_heap_other (by omega)).trans hb.2)⟩
    · have h := run_endLoop (P := P) hb.1 (by rw [hrc]; simp)
      rw [hrc] at h
      exact ⟨some c, _, h, hstop _ c pre _ (by omega) hSp ((hIx c).putObj _ hi (by omega) hb.1 rfl) ((World.putObj_heap_other (by omega)).trans hb.2)⟩
end
end Go.Proofs.Ytdneehbhncekaaa
set_option linter.unusedSimpArgs false
set_option linter.unusedVariables false
namespace Go.Proofs.Ytdneehbhncekaaa
open Go.RowKit

/-- an opened map lies at block O -/
def Opened (W : World) (O : Nat) (north wrong : Int) (cols lofts : Nat) (E S : Value) (fs : Nat) (rows : Nat → List Sp) : Prop :=
  ∃ slv, Blk W O 99 (oc north cols E lofts S wrong fs slv) ∧ ∀ j, j < lofts → SpotsAt W (slv j) (rows j)
theorem Opened.keep {W W' : World} {O : Nat} {north wrong : Int} {cols lofts : Nat} {E S : Value} {fs : Nat} {rows : Nat → List Sp} (h : Opened W O north wrong cols lofts E S fs rows) (hg : G W W') : Opened W' O north wrong cols lofts E S fs rows := by
  obtain ⟨slv, b, hs⟩ := h
  exact ⟨slv, b.keep hg, fun j hj => (hs j hj).keep (fun g hl _ => hg.block g hl) hg.size⟩
theorem Opened.lt {W : World} {O : Nat} {north wrong : Int} {cols lofts : Nat} {E S : Value} {fs : Nat} {rows : Nat → List Sp} (h : Opened W O north wrong cols lofts E S fs rows) : O < W.heap.size := by
  obtain ⟨slv, b, hs⟩ := h
  exact b.lt

set_option maxHeartbeats 2000000 in
theorem spare_any {O : Nat} {north wrong : Int} {cols lofts : Nat} {E S : Value} {fs : Nat} {rows : Nat → List Sp} (w : World) (h : Opened w O north wrong cols lofts E S fs rows) (hw : 0 ≤ wrong ∧ wrong ≤ 3) (hf : fs ≤ 128) :
    Calls Try.prog 31 #[.pointer (some ⟨O, 0, none⟩)] w fun e w' => e = .returned (.int .i64 (wrong - fs)) ∧ G w w' := by
  obtain ⟨slv, b, _⟩ := h
  have i1 : w.cell? ⟨O, 5, none⟩ = some (.int .i64 wrong) := b.cell 5
  have i2 : w.cell? ⟨O, 6, none⟩ = some (.int .i64 fs) := b.cell 6
  have hW : IntKind.i64.wrap (wrong - fs) = wrong - fs := IntWalk.i64_in _ (by omega)
  clear b
  go_enter Try.func31, Try.ntmps31
  go_wp2
  go_quiet (fail)
  go_wp2
  go_ret
  exact ⟨rfl, (G.rf _).dn _⟩
end Go.Proofs.Ytdneehbhncekaaa
set_option linter.unusedSimpArgs false
set_option linter.unusedVariables false
namespace Go.Proofs.Ytdneehbhncekaaa
open Go.RowKit

/-- the ways with one more loft, of whose spots l are counted -/
def pw (sp : Int) (l : List Nat) (f : Nat → Nat) (t : Nat) : Nat := if (t : Int) ≤ sp then (l.map fun m => if m ≤ t then f (t - m) else 0).sum else 0
def ways (sp : Int) (rows : Nat → List Sp) : Nat → Nat → Nat
  | 0 => fun t => if t = 0 then 1 else 0
  | k + 1 => pw sp ((rows k).map Sp.more) (ways sp rows k)
def manyN (sp : Int) (rows : Nat → List Sp) (k : Nat) : Nat := ways sp rows k 0 + ways sp rows k 1 + ways sp rows k 2 + ways sp rows k 3
def wc (f : Nat → Nat) : Array Value := #[.int .i64 (f 0), .int .i64 (f 1), .int .i64 (f 2), .int .i64 (f 3)]
theorem wc_get (f : Nat → Nat) {t : Nat} (h : t < 4) : (wc f)[t]? = some (.int .i64 (f t)) := by
  match t, h with
  | 0, _ => rfl
  | 1, _ => rfl
  | 2, _ => rfl
  | 3, _ => rfl
theorem wc_set (f : Nat → Nat) {t : Nat} (h : t < 4) (v : Nat) : (wc f).setIfInBounds t (.int .i64 v) = wc (upd f t v) := by
  match t, h with
  | 0, _ => rfl
  | 1, _ => rfl
  | 2, _ => rfl
  | 3, _ => rfl
theorem sum_le_mul (f : Nat → Nat) (B : Nat) (t : Nat) (hf : ∀ t, f t ≤ B) : ∀ (l : List Nat), (l.map fun m => if m ≤ t then f (t - m) else 0).sum ≤ l.length * B
  | [] => by simp
  | m :: l => by
    have h1 := sum_le_mul f B t hf l
    have h2 : (if m ≤ t then f (t - m) else 0) ≤ B := by split <;> simp [hf]
    simp only [List.map_cons, List.sum_cons, List.length_cons, Nat.add_mul, Nat.one_mul]
    omega
theorem pw_nil (sp : Int) (f : Nat → Nat) : pw sp [] f = fun _ => 0 := by
  funext t; unfold pw; split <;> rfl
theorem pw_le (sp : Int) (f : Nat → Nat) (B : Nat) (hf : ∀ t, f t ≤ B) (l : List Nat) (t : Nat) : pw sp l f t ≤ l.length * B := by
  unfold pw
  split
  · exact sum_le_mul f B t hf l
  · exact Nat.zero_le _
theorem ways_le (sp : Int) (rows : Nat → List Sp) : ∀ (k : Nat), (∀ j, j < k → (rows j).length ≤ 100) → ∀ t, ways sp rows k t ≤ 100 ^ k
  | 0, _, t => by unfold ways; split <;> simp
  | k + 1, h, t => by
    have h1 := ways_le sp rows k (fun j hj => h j (by omega))
    have h2 := pw_le sp (ways sp rows k) (100 ^ k) h1 ((rows k).map Sp.more) t
    have h3 := h k (by omega)
    simp only [List.length_map] at h2
    have h4 : (rows k).length * 100 ^ k ≤ 100 * 100 ^ k := Nat.mul_le_mul_right _ h3
    unfold ways
    rw [Nat.pow_succ]
    omega
/-- .. and of the spot m the ways to numbers below t -/
def pp (g f : Nat → Nat) (m t : Nat) (t' : Nat) : Nat := g t' + if m ≤ t' ∧ t' < t then f (t' - m) else 0
theorem pp_start (g f : Nat → Nat) (m : Nat) : pp g f m m = g := by
  funext t'; unfold pp; rw [if_neg (by omega)]; rfl
theorem pp_step (g f : Nat → Nat) (m t : Nat) (h : m ≤ t) : upd (pp g f m t) t (pp g f m t t + f (t - m)) = pp g f m (t + 1) := by
  funext t'
  unfold upd pp
  by_cases e : t' = t
  · subst e
    rw [if_pos rfl, if_neg (by omega), if_pos (by omega)]; omega
  · rw [if_neg e]
    by_cases h2 : m ≤ t' ∧ t' < t
    · rw [if_pos h2, if_pos (by omega)]
    · rw [if_neg h2, if_neg (by omega)]
theorem pp_end (sp : Int) (f : Nat → Nat) (l : List Nat) (m t : Nat) (h1 : m ≤ t) (h2 : t = m ∨ (t : Int) ≤ sp + 1) (h3 : ¬ (t : Int) ≤ sp) : pp (pw sp l f) f m t = pw sp (l ++ [m]) f := by
  funext t'
  unfold pp pw
  by_cases h4 : (t' : Int) ≤ sp
  · rw [if_pos h4, if_pos h4]
    simp only [List.map_append, List.sum_append, List.map_cons, List.map_nil, List.sum_cons, List.sum_nil]
    by_cases h5 : m ≤ t'
    · rw [if_pos ⟨h5, by omega⟩, if_pos h5]; omega
    · rw [if_neg (by omega), if_neg h5]; omega
  · rw [if_neg h4, if_neg h4, if_neg (by omega)]
theorem pp_le (g f : Nat → Nat) (m t B C : Nat) (hg : ∀ t, g t ≤ C) (hf : ∀ t, f t ≤ B) (t' : Nat) : pp g f m t t' ≤ C + B := by
  unfold pp
  have := hg t'
  split
  · have := hf (t' - m); omega
  · omega

def tot (f : Nat → Nat) : Nat → Nat
  | 0 => 0
  | j + 1 => tot f j + f j
theorem tot_le (f : Nat → Nat) (B : Nat) (hf : ∀ t, f t ≤ B) : ∀ j, tot f j ≤ j * B
  | 0 => Nat.zero_le _
  | j + 1 => by
    have h1 := tot_le f B hf j
    have h2 := hf j
    rw [Nat.add_mul, Nat.one_mul]
    unfold tot
    omega
theorem idx121 (f : Nat → Nat) (j : Nat) (h : j < 4) (w : World) : (Instr.index 111 (.agg #[.int .i64 (f 0), .int .i64 (f 1), .int .i64 (f 2), .int .i64 (f 3)]) (.int .i64 j)).run Try.prog w = .ok (.int .i64 (f j)) w := by
  rcases (show j = 0 ∨ j = 1 ∨ j = 2 ∨ j = 3 by omega) with rfl | rfl | rfl | rfl
  · show (Instr.index 111 (.agg #[.int .i64 (f 0), .int .i64 (f 1), .int .i64 (f 2), .int .i64 (f 3)]) (.int .i64 0)).run Try.prog w = .ok (.int .i64 (f 0)) w
    kernel_rfl
  · show (Instr.index 111 (.agg #[.int .i64 (f 0), .int .i64 (f 1), .int .i64 (f 2), .int .i64 (f 3)]) (.int .i64 1)).run Try.prog w = .ok (.int .i64 (f 1)) w
    kernel_rfl
  · show (Instr.index 111 (.agg #[.int .i64 (f 0), .int .i64 (f 1), .int .i64 (f 2), .int .i64 (f 3)]) (.int .i64 2)).run Try.prog w = .ok (.int .i64 (f 2)) w
    kernel_rfl
  · show (Instr.index 111 (.agg #[.int .i64 (f 0), .int .i64 (f 1), .int .i64 (f 2), .int .i64 (f 3)]) (.int .i64 3)).run Try.prog w = .ok (.int .i64 (f 3)) w
    kernel_rfl
def S12 (B A C : Nat) (cb ca cc : Array Value) (W' : World) : Prop := Blk W' B 111 cb ∧ Blk W' A 111 ca ∧ Blk W' C 110 cc
set_option maxRecDepth 100000 in
set_option maxHeartbeats 4000000 in
theorem many_any {O : Nat} {north wrong : Int} {cols lofts : Nat} {E S : Value} {fs : Nat} {rows : Nat → List Sp} (w : World) (h : Opened w O north wrong cols lofts E S fs rows) (hw : 0 ≤ wrong ∧ wrong ≤ 3) (hf : fs ≤ 128)
    (hlo : lofts ≤ 8) (hr : ∀ j, j < lofts → (rows j).length ≤ 100) :
    Calls Try.prog 29 #[.pointer (some ⟨O, 0, none⟩)] w fun e w' => e = .returned (.int .i64 (manyN (wrong - fs) rows lofts)) ∧ G w w' := by
  have hSP := fun (W : World) (hW : G w W) => spare_any W (h.keep hW) hw hf
  have HSP := Lib.hid hSP
  clear hSP
  have hwl : ∀ k, k ≤ lofts → ∀ t, ways (wrong - fs) rows k t ≤ 100 ^ k := fun k hk => ways_le _ _ k (fun j hj => hr j (by omega))
  generalize hsp : wrong - (fs : Int) = sp at *
  have hs3 : sp ≤ 3 := by omega
  obtain ⟨slv, b, hsl⟩ := h
  have i3 : w.cell? ⟨O, 3, none⟩ = some (.int .i64 lofts) := b.cell 3
  have lO := b.lt
  go_enter Try.func29, Try.ntmps29
  go_wp2
  have hA0 : Blk (w.alloc (.cells #[.int .i64 1, .int .i64 0, .int .i64 0, .int .i64 0] 111)) w.heap.size 111 (wc (ways sp rows 0)) := Blk.new _ _ _
  have hG0 : G w (w.alloc (.cells #[.int .i64 1, .int .i64 0, .int .i64 0, .int .i64 0] 111)) := (G.rf _).a _
  generalize w.alloc (.cells #[.int .i64 1, .int .i64 0, .int .i64 0, .int .i64 0] 111) = W0 at *
  go_loopw [18] (fun i wr => ∃ k : Nat, k ≤ lofts ∧ i = .int .i64 k ∧ Blk wr w.heap.size 111 (wc (ways sp rows k)) ∧ G w wr) (fun i _ => lofts - (intOf i).toNat)
  case atStart => exact ⟨0, Nat.zero_le _, rfl, hA0, hG0⟩
  case round =>
    obtain ⟨k, hk, rfl, bA, hG⟩ := hrel
    by_cases hlt : k < lofts
    · obtain ⟨wk, rfl⟩ : ∃ wk, wk = wr := ⟨_, rfl⟩
      obtain ⟨g, cap, hsv, ⟨_, hgb⟩, hsc⟩ := hsl k hlt
      have hgl := hgb.lt
      clear hgb
      have hk8 : k < 8 := by omega
      have hk8' : (k : Int) < 8 := by omega
      have i4 : wk.cell? ⟨O, 7 + k, none⟩ = some (.slice (some ⟨g, 0, none⟩) (rows k).length cap) := ((bcellB hG).1 _ _ lO).trans ((b.cell _).trans ((oc_get hk8).trans (by rw [hsv])))
      have lOr : O < wk.heap.size := by have := hG.size; omega
      have lA := bA.lt
      have hrk := hr k hlt
      have hwk := hwl k (by omega)
      have h100 : 100 ^ k ≤ 100 ^ 7 := Nat.pow_le_pow_right (by omega) (by omega)
      have hws : ways sp rows (k + 1) = pw sp ((rows k).map Sp.more) (ways sp rows k) := rfl
      have HWS := Lib.hid hws
      clear hws
      generalize ways sp rows k = f at *
      generalize rows k = row at *
      go_wp2
      have hB0 : Blk (wk.alloc (.cells #[.int .i64 0, .int .i64 0, .int .i64 0, .int .i64 0] 111)) wk.heap.size 111 (wc (pw sp ((row.map Sp.more).take 0) f)) := by
        rw [List.take_zero, pw_nil]; exact Blk.new _ _ _
      have hA1 := bA.alloc (.cells #[.int .i64 0, .int .i64 0, .int .i64 0, .int .i64 0] 111)
      have hG1 : G w (wk.alloc (.cells #[.int .i64 0, .int .i64 0, .int .i64 0, .int .i64 0] 111)) := hG.a _
      generalize wk.alloc (.cells #[.int .i64 0, .int .i64 0, .int .i64 0, .int .i64 0] 111) = W1 at *
      go_loopw [28] (fun i W' => ∃ q : Nat, q ≤ row.length ∧ i = .int .i64 q ∧ Blk W' wk.heap.size 111 (wc (pw sp ((row.map Sp.more).take q) f)) ∧ Blk W' w.heap.size 111 (wc f) ∧ G w W') (fun i _ => row.length - (intOf i).toNat)
      case atStart => exact ⟨0, Nat.zero_le _, rfl, hB0, hA1, hG1⟩
      case round =>
        obtain ⟨q, hq, rfl, bB', bA', hG'⟩ := hrel
        by_cases hlq : q < row.length
        · obtain ⟨c0, c1, c2⟩ := hsc q hlq
          have hgc := (bcellB hG').1
          have d0 := (hgc _ _ hgl).trans c0
          have d1 := (hgc _ _ hgl).trans c1
          have d2 := (hgc _ _ hgl).trans c2
          have htk : (row.map Sp.more).take (q + 1) = (row.map Sp.more).take q ++ [(row.getD q default).more] := by
            rw [List.take_succ_eq_append_getElem (by simpa using hlq)]
            simp [hlq]
          have hml : ((row.map Sp.more).take q).length = q := by simp; omega
          have lg : g < wr.heap.size := by have := hG'.size; omega
          have lB := bB'.lt
          have lA' := bA'.lt
          have lOw : O < wr.heap.size := by have := hG'.size; omega
          clear c0 c1 c2 hgc
          have hqi : (q : Int) < row.length := by omega
          have HTK := Lib.hid htk
          clear htk
          generalize hsd : row.getD q default = s at *
          generalize (row.map Sp.more).take q = l at *
          have hpw := pw_le sp f (100 ^ k) hwk l
          rw [hml] at hpw
          clear hml hsd
          go_wp2
          obtain ⟨wq, rfl⟩ : ∃ wq, wq = wr := ⟨_, rfl⟩
          have hC2 := Blk.new wq 110 #[.int .i64 s.x, .int .i64 s.y, .int .i64 s.more]
          have hB2 := bB'.alloc (.cells #[.int .i64 s.x, .int .i64 s.y, .int .i64 s.more] 110)
          have hA2 := bA'.alloc (.cells #[.int .i64 s.x, .int .i64 s.y, .int .i64 s.more] 110)
          have hG2 : G w (wq.alloc (.cells #[.int .i64 s.x, .int .i64 s.y, .int .i64 s.more] 110)) := hG'.a _
          generalize wq.alloc (.cells #[.int .i64 s.x, .int .i64 s.y, .int .i64 s.more] 110) = W2 at *
          rw [← pp_start (pw sp l f) f s.more] at hB2
          go_loopw [8] (fun i W' => ∃ t : Nat, s.more ≤ t ∧ (t = s.more ∨ (t : Int) ≤ sp + 1) ∧ i = .int .i64 t ∧ Blk W' wk.heap.size 111 (wc (pp (pw sp l f) f s.more t)) ∧ Blk W' w.heap.size 111 (wc f) ∧ Blk W' wq.heap.size 110 #[.int .i64 s.x, .int .i64 s.y, .int .i64 s.more] ∧ G w W') (fun i _ => (sp + 1 - intOf i).toNat)
          case atStart => exact ⟨s.more, Nat.le_refl _, .inl rfl, rfl, hB2, hA2, hC2, hG2⟩
          case round =>
            obtain ⟨t, ht1, ht2, rfl, b5, b3, b7, hGr⟩ := hrel
            have hNE1 : wk.heap.size ≠ w.heap.size := by omega
            have hNE2 : wq.heap.size ≠ wk.heap.size := by omega
            clear hA2 hB2 hC2 hG2 bA bA' bB' hB0 hA1
            by_cases hts : (t : Int) ≤ sp
            · go_wp2_with (go_at_call 31; refine (HSP.out _ hGr).mono ?_; rintro e w' ⟨rfl, hGx⟩)
              replace b5 := b5.keep hGx
              replace b3 := b3.keep hGx
              replace b7 := b7.keep hGx
              have hGy := hGr.t hGx
              clear hGx
              have ht4 : t < 4 := by omega
              have ht4' : (t : Int) < 4 := by omega
              have hm4 : t - s.more < 4 := by omega
              have hm4' : ((t - s.more : Nat) : Int) < 4 := by omega
              have hw1 : IntKind.i64.wrap ((t : Int) - s.more) = ((t - s.more : Nat) : Int) := by
                rw [IntWalk.i64_in _ (by omega)]; omega
              have hb1 := pp_le (pw sp l f) f s.more t (100 ^ k) (q * 100 ^ k) hpw hwk t
              have hb2 := hwk (t - s.more)
              have hb3 : q * 100 ^ k ≤ 100 * 100 ^ 7 := Nat.mul_le_mul (by omega) h100
              have hw2 : IntKind.i64.wrap ((pp (pw sp l f) f s.more t t : Int) + f (t - s.more)) = ((pp (pw sp l f) f s.more t t + f (t - s.more) : Nat) : Int) := by
                rw [IntWalk.i64_in _ (by omega)]; omega
              have hps := pp_step (pw sp l f) f s.more t ht1
              have HPS := Lib.hid hps
              clear hps hb1 hb2 hb3
              have a5 : w'.cell? ⟨wk.heap.size, t, none⟩ = some (.int .i64 (pp (pw sp l f) f s.more t t)) := (b5.cell _).trans (wc_get _ ht4)
              have z5 := b5.frozen t
              refine wp_region_Z (S := S12 wk.heap.size w.heap.size wq.heap.size (wc (pp (pw sp l f) f s.more t)) (wc f) #[.int .i64 s.x, .int .i64 s.y, .int .i64 s.more]) 11 12 rfl (by kernel_rfl) ⟨b5, b3, b7⟩ (fun hS => ?_)
              have f1 : ∀ W', S12 wk.heap.size w.heap.size wq.heap.size (wc (pp (pw sp l f) f s.more t)) (wc f) #[.int .i64 s.x, .int .i64 s.y, .int .i64 s.more] W' → W'.cell? ⟨wk.heap.size, t, none⟩ = some (.int .i64 (pp (pw sp l f) f s.more t t)) := fun W' h => (h.1.cell _).trans (wc_get _ ht4)
              have f2 : ∀ W', S12 wk.heap.size w.heap.size wq.heap.size (wc (pp (pw sp l f) f s.more t)) (wc f) #[.int .i64 s.x, .int .i64 s.y, .int .i64 s.more] W' → W'.cell? ⟨w.heap.size, t - s.more, none⟩ = some (.int .i64 (f (t - s.more))) := fun W' h => (h.2.1.cell _).trans (wc_get _ hm4)
              have f3 : ∀ W', S12 wk.heap.size w.heap.size wq.heap.size (wc (pp (pw sp l f) f s.more t)) (wc f) #[.int .i64 s.x, .int .i64 s.y, .int .i64 s.more] W' → W'.cell? ⟨wq.heap.size, 2, none⟩ = some (.int .i64 s.more) := fun W' h => h.2.2.cell 2
              refine wpAnyZ_take (i := 0) (v := ?_) rfl (by kernel_rfl) (by kernel_rfl) (by kernel_rfl) (by kernel_rfl) (fun _ _ _ h => h) (Or.inl ⟨by rfl, ?_⟩) (by assumption) ?_
              rotate_left
              · intro w' hSw; go_simp; with_reducible rfl
              try simp only [Act.put, List.setIfInBounds_toArray, List.set_cons_zero, List.set_cons_succ]
              refine wpAnyZ_take (i := 1) (v := ?_) rfl (by kernel_rfl) (by kernel_rfl) (by kernel_rfl) (by kernel_rfl) (fun _ _ _ h => h) (Or.inl ⟨by rfl, ?_⟩) (by assumption) ?_
              rotate_left
              · intro w' hSw; go_simp; with_reducible rfl
              try simp only [Act.put, List.setIfInBounds_toArray, List.set_cons_zero, List.set_cons_succ]
              refine wpAnyZ_take (i := 2) (v := ?_) rfl (by kernel_rfl) (by kernel_rfl) (by kernel_rfl) (by kernel_rfl) (fun _ _ _ h => h) (Or.inl ⟨by rfl, ?_⟩) (by assumption) ?_
              rotate_left
              · intro w' hSw; go_simp; with_reducible rfl
              try simp only [Act.put, List.setIfInBounds_toArray, List.set_cons_zero, List.set_cons_succ]
              refine wpAnyZ_take (i := 3) (v := ?_) rfl (by kernel_rfl) (by kernel_rfl) (by kernel_rfl) (by kernel_rfl) (fun _ _ _ h => h) (Or.inl ⟨by rfl, ?_⟩) (by assumption) ?_
              rotate_left
              · intro w' hSw; go_simp; with_reducible rfl
              try simp only [Act.put, List.setIfInBounds_toArray, List.set_cons_zero, List.set_cons_succ]
              refine wpAnyZ_take (i := 4) (v := ?_) rfl (by kernel_rfl) (by kernel_rfl) (by kernel_rfl) (by kernel_rfl) (fun _ _ _ h => h) (Or.inl ⟨by rfl, ?_⟩) (by assumption) ?_
              rotate_left
              · intro w' hSw; go_simp; with_reducible rfl
              try simp only [Act.put, List.setIfInBounds_toArray, List.set_cons_zero, List.set_cons_succ]
              refine wpAnyZ_take (i := 5) (v := ?_) rfl (by kernel_rfl) (by kernel_rfl) (by kernel_rfl) (by kernel_rfl) (fun _ _ _ h => h) (Or.inl ⟨by rfl, ?_⟩) (by assumption) ?_
              rotate_left
              · intro w' hSw; go_simp; with_reducible rfl
              try simp only [Act.put, List.setIfInBounds_toArray, List.set_cons_zero, List.set_cons_succ]
              refine wpAnyZ_take (i := 6) (v := ?_) rfl (by kernel_rfl) (by kernel_rfl) (by kernel_rfl) (by kernel_rfl) (fun _ _ _ h => h) (Or.inl ⟨by rfl, ?_⟩) (by assumption) ?_
              rotate_left
              · intro w' hSw; go_simp; with_reducible rfl
              try simp only [Act.put, List.setIfInBounds_toArray, List.set_cons_zero, List.set_cons_succ]
              refine wpAnyZ_take (i := 7) (v := ?_) rfl (by kernel_rfl) (by kernel_rfl) (by kernel_rfl) (by kernel_rfl) (fun _ _ _ h => h) (Or.inl ⟨by rfl, ?_⟩) (by assumption) ?_
              rotate_left
              · intro w' hSw; go_simp; with_reducible rfl
              try simp only [Act.put, List.setIfInBounds_toArray, List.set_cons_zero, List.set_cons_succ]
              refine wpAnyZ_take (i := 8) (v := ?_) rfl (by kernel_rfl) (by kernel_rfl) (by kernel_rfl) (by kernel_rfl) (fun _ _ _ h => h) (Or.inl ⟨by rfl, ?_⟩) (by assumption) ?_
              rotate_left
              · intro w' hSw; go_simp; with_reducible rfl
              try simp only [Act.put, List.setIfInBounds_toArray, List.set_cons_zero, List.set_cons_succ]
              refine wpAnyZ_take (i := 9) (v := ?_) rfl (by kernel_rfl) (by kernel_rfl) (by kernel_rfl) (by kernel_rfl) (fun _ _ _ h => h) (Or.inl ⟨by rfl, ?_⟩) (by assumption) ?_
              rotate_left
              · intro w' hSw; go_simp; with_reducible rfl
              try simp only [Act.put, List.setIfInBounds_toArray, List.set_cons_zero, List.set_cons_succ]
              refine wpAnyZ_take (i := 10) (v := ?_) rfl (by kernel_rfl) (by kernel_rfl) (by kernel_rfl) (by kernel_rfl) (fun _ _ _ h => h) (Or.inl ⟨by rfl, ?_⟩) (by assumption) ?_
              rotate_left
              · intro w' hSw; go_simp; with_reducible rfl
              try simp only [Act.put, List.setIfInBounds_toArray, List.set_cons_zero, List.set_cons_succ]
              refine wpAnyZ_one (i := 11) (by kernel_rfl) rfl (fun K6 hK6 => ?_)
              go_simp
              refine hK6.out _ _ (fun h => absurd rfl h) (fun _ => ?_)
              refine wpAnyZ_done (by kernel_rfl) ?_ _
              go_wp2
              have e0 : ((pp (pw sp l f) f s.more t t : Int) + f (t - s.more)) = ((pp (pw sp l f) f s.more t t + f (t - s.more) : Nat) : Int) := by omega
              rw [e0]
              have b5s := b5.set_ t (.int .i64 ((pp (pw sp l f) f s.more t t + f (t - s.more) : Nat) : Int))
              rw [wc_set _ ht4, HPS.out] at b5s
              refine ⟨⟨t + 1, by omega, .inr (by omega), by simp, b5s.dr, (b3.far (by simp; omega) _).dr, (b7.far (by simp; omega) _).dr, (hGy.s (by simp; omega) _).d⟩, by simp [intOf]; omega⟩
            · go_wp2_with (go_at_call 31; refine (HSP.out _ hGr).mono ?_; rintro e w' ⟨rfl, hGx⟩)
              refine ⟨⟨q + 1, by omega, by simp, ?_, b3.keep hGx, hGr.t hGx⟩, by simp [intOf]; omega⟩
              rw [HTK.out, ← pp_end sp f l s.more t ht1 ht2 (by omega)]
              exact b5.keep hGx
        · have hqe : (row.map Sp.more).take q = row.map Sp.more := List.take_of_length_le (by simp; omega)
          rw [hqe, ← HWS.out] at bB'
          have hN := hwl (k + 1) (by omega)
          obtain ⟨g', hg'⟩ : ∃ g', ways sp rows (k + 1) = g' := ⟨_, rfl⟩
          rw [hg'] at bB'
          have c0 : wr.cell? ⟨wk.heap.size, 0, none⟩ = some (.int .i64 (g' 0)) := bB'.cell 0
          have c1 : wr.cell? ⟨wk.heap.size, 1, none⟩ = some (.int .i64 (g' 1)) := bB'.cell 1
          have c2 : wr.cell? ⟨wk.heap.size, 2, none⟩ = some (.int .i64 (g' 2)) := bB'.cell 2
          have c3 : wr.cell? ⟨wk.heap.size, 3, none⟩ = some (.int .i64 (g' 3)) := bB'.cell 3
          have z0 := bA'.frozen 0
          have z1 := bA'.frozen 1
          have z2 := bA'.frozen 2
          have z3 := bA'.frozen 3
          have x0 : wr.cell? ⟨w.heap.size, 0, none⟩ = some (.int .i64 (f 0)) := bA'.cell 0
          have x1 : wr.cell? ⟨w.heap.size, 1, none⟩ = some (.int .i64 (f 1)) := bA'.cell 1
          have x2 : wr.cell? ⟨w.heap.size, 2, none⟩ = some (.int .i64 (f 2)) := bA'.cell 2
          have x3 : wr.cell? ⟨w.heap.size, 3, none⟩ = some (.int .i64 (f 3)) := bA'.cell 3
          go_wp2
          refine ⟨⟨k + 1, by omega, by simp, ?_, (((hG'.s (by simp) _).s (by simp) _).s (by simp) _).s (by simp) _⟩, by simp [intOf]; omega⟩
          rw [hg']
          exact (((bA'.set_ 0 _).set_ 1 _).set_ 2 _).set_ 3 _
    · obtain rfl : lofts = k := by omega
      have hN := hwl lofts (by omega)
      have h100 : 100 ^ lofts ≤ 100 ^ 8 := Nat.pow_le_pow_right (by omega) (by omega)
      obtain ⟨f, hf⟩ : ∃ f, ways sp rows lofts = f := ⟨_, rfl⟩
      have hM : manyN sp rows lofts = tot f 4 := by unfold manyN; rw [hf]; simp [tot]
      rw [hf] at bA hN
      have x0 : wr.cell? ⟨w.heap.size, 0, none⟩ = some (.int .i64 (f 0)) := bA.cell 0
      have x1 : wr.cell? ⟨w.heap.size, 1, none⟩ = some (.int .i64 (f 1)) := bA.cell 1
      have x2 : wr.cell? ⟨w.heap.size, 2, none⟩ = some (.int .i64 (f 2)) := bA.cell 2
      have x3 : wr.cell? ⟨w.heap.size, 3, none⟩ = some (.int .i64 (f 3)) := bA.cell 3
      go_wp2
      go_loopw [9, 55] (fun a i W' => ∃ j : Nat, j ≤ 4 ∧ i = .int .i64 j ∧ a = .int .i64 (tot f j) ∧ G w W') (fun _ i _ => 4 - (intOf i).toNat)
      case atStart => exact ⟨0, by omega, rfl, rfl, hG⟩
      case round =>
        obtain ⟨j, hj, rfl, rfl, hG'⟩ := hrel
        have t1 := tot_le f (100 ^ 8) (fun t => Nat.le_trans (hN t) h100) j
        by_cases hj4 : j < 4
        · have t2 := Nat.le_trans (hN j) h100
          have t3 : tot f (j + 1) = tot f j + f j := rfl
          have hw : IntKind.i64.wrap ((tot f j : Int) + f j) = (tot f (j + 1) : Int) := by
            rw [t3, IntWalk.i64_in _ (by omega)]; omega
          clear t1 t2 t3
          have hget := idx121 f j hj4
          have hj4' : (j : Int) < 4 := by omega
          go_wp2
          exact ⟨⟨j + 1, by omega, by simp, rfl, hG'⟩, by simp [intOf]; omega⟩
        · obtain rfl : j = 4 := by omega
          go_wp2
          go_ret
          exact ⟨by rw [hM]; rfl, hG'⟩
end Go.Proofs.Ytdneehbhncekaaa
set_option linter.unusedSimpArgs false
set_option linter.unusedVariables false
namespace Go.Proofs.Ytdneehbhncekaaa
open Go.RowKit

theorem checkE_zero {north cols lofts wrong : Int} {east : List Int} {svs : List Sv} (h : checkE north cols east lofts svs wrong = 0) : validMapB north cols east lofts wrong = true ∧ svs.length ≤ 16 ∧ svs.all (svOk cols east.length lofts) = true := by
  have hv := checkE_ok h
  unfold checkE at h
  rw [hv] at h
  simp only [Bool.true_eq_false, if_false] at h
  by_cases h1 : svs.length > 16
  · rw [if_pos h1] at h; omega
  · rw [if_neg h1] at h
    refine ⟨hv, by omega, ?_⟩
    cases h2 : svs.all (svOk cols east.length lofts)
    · rw [h2] at h; simp at h
    · rfl
theorem open_any (north wrong : Int) (cols lofts : Nat) (east : List Int) (svs : List Sv) (ea sa : Option Addr) (ec sc : Nat) (w : World) (he : IntsAt w ea east) (hs0 : SvsAt w sa svs)
    (hl2 : svs.length ≤ 16) (hv : validMapB north cols east lofts wrong = true) (hso : svs.all (svOk cols east.length lofts) = true) :
    Calls Try.prog 28 #[.agg #[.int .i64 north, .int .i64 cols, .slice ea east.length ec, .int .i64 lofts, .slice sa svs.length sc, .int .i64 wrong]] w fun e w' =>
      e = .returned (.pointer (some ⟨w.heap.size + 1, 0, none⟩)) ∧ Opened w' (w.heap.size + 1) north wrong cols lofts (.slice ea east.length ec) (.slice sa svs.length sc) (fewSum north cols east svs lofts) (spotsOf north cols east svs) ∧ G w w' := by
  refine (callsIn_wide.1 (open_in 4 (by omega) north wrong cols lofts east svs ea sa ec sc w he hs0 hl2 hv hso)).mono ?_
  rintro e w' ⟨rfl, slv, _, b, _, _, hs, hG⟩
  exact ⟨rfl, ⟨slv, b, hs⟩, hG⟩

/-- the number of the truths -/
def manyV (north wrong : Int) (cols lofts : Nat) (east : List Int) (svs : List Sv) : Nat := manyN (wrong - (fewSum north cols east svs lofts : Int)) (spotsOf north cols east svs) lofts

theorem spotsOf_len (north : Int) (cols : Nat) (east : List Int) (svs : List Sv) (j : Nat) (hc : cols ≤ 10) (hr : east.length ≤ 10) : (spotsOf north cols east svs j).length ≤ 100 := by
  simp only [spotsOf, List.length_map, allP_len]
  exact Nat.mul_le_mul hr hc

set_option maxHeartbeats 4000000 in
theorem Many_ok (north wrong : Int) (cols lofts : Nat) (east : List Int) (svs : List Sv) (ea sa : Option Addr) (ec sc : Nat) (w : World) (he : IntsAt w ea east) (hs : SvsAt w sa svs)
    (hk : checkE north cols east lofts svs wrong = 0) (hl2 : svs.length ≤ 16) (hso : svs.all (svOk cols east.length lofts) = true) :
    Calls Try.prog 14 #[.agg #[.int .i64 north, .int .i64 cols, .slice ea east.length ec, .int .i64 lofts, .slice sa svs.length sc, .int .i64 wrong]] w fun e w' =>
      e = .returned (.tuple #[.int .i64 (if manyV north wrong cols lofts east svs ≤ 1000000 then (manyV north wrong cols lofts east svs : Int) else 0), .int .i64 (if manyV north wrong cols lofts east svs ≤ 1000000 then 0 else 2)]) ∧ G w w' := by
  have hv := checkE_ok hk
  have hvb := vm_bounds hv
  have hl : east.length ≤ 9223372036854775807 := by omega
  have hC := fun (W : World) (hW : G w W) => Check_any north cols lofts wrong east svs ea sa ec sc W (he.below hW) (hs.below hW) hl (by omega)
  rw [hk] at hC
  have hO := fun (W : World) (hW : G w W) => open_any north wrong cols lofts east svs ea sa ec sc W (he.below hW) (hs.below hW) hl2 hv hso
  have hM := fun (W : World) (O : Nat) (h : Opened W O north wrong cols lofts (.slice ea east.length ec) (.slice sa svs.length sc) (fewSum north cols east svs lofts) (spotsOf north cols east svs)) =>
    many_any W h (by omega) (Nat.le_trans (fewSum_le north cols east svs lofts hl2) (by omega)) (by omega) (fun j _ => spotsOf_len north cols east svs j (by omega) (by omega))
  have hG1 : G w (w.alloc (.cells #[.int .i64 north, .int .i64 cols, .slice ea east.length ec, .int .i64 lofts, .slice sa svs.length sc, .int .i64 wrong] 25)) := (G.rf _).a _
  have hm : manyN (wrong - (fewSum north cols east svs lofts : Int)) (spotsOf north cols east svs) lofts = manyV north wrong cols lofts east svs := rfl
  simp only [hm] at hM
  have hz : w.heap.size + 1 ≤ (w.alloc (.cells #[.int .i64 north, .int .i64 cols, .slice ea east.length ec, .int .i64 lofts, .slice sa svs.length sc, .int .i64 wrong] 25)).heap.size := by simp
  have HC := Lib.hid hC
  have HO := Lib.hid hO
  have HM := Lib.hid hM
  clear hC hO hM hk hm hvb hv
  generalize manyV north wrong cols lofts east svs = N at *
  by_cases hN : N ≤ 1000000
  · rw [if_pos hN, if_pos hN]
    have hN' : ¬ (1000000 : Int) < N := by omega
    go_enter Try.func14, Try.ntmps14
    go_wp2_with (first | (go_at_call 27; refine (HC.out _ hG1).mono ?_; rintro e w' ⟨rfl, hGx⟩; have hcy := (bcellB hGx).1; have hG := G.t hG1 hGx; have hz1 : w.heap.size + 1 ≤ w'.heap.size := Nat.le_trans hz hGx.size) | (go_at_call 28; refine (HO.out _ hG).mono ?_; rintro e w' ⟨rfl, hOp, hGx⟩; have hG := G.t hG hGx) | (go_at_call 29; refine (HM.out _ _ hOp).mono ?_; rintro e w' ⟨rfl, hGx⟩; have hG := G.t hG hGx))
    go_ret2
    exact ⟨rfl, hG⟩
  · rw [if_neg hN, if_neg hN]
    have hN' : (1000000 : Int) < N := by omega
    go_enter Try.func14, Try.ntmps14
    go_wp2_with (first | (go_at_call 27; refine (HC.out _ hG1).mono ?_; rintro e w' ⟨rfl, hGx⟩; have hcy := (bcellB hGx).1; have hG := G.t hG1 hGx; have hz1 : w.heap.size + 1 ≤ w'.heap.size := Nat.le_trans hz hGx.size) | (go_at_call 28; refine (HO.out _ hG).mono ?_; rintro e w' ⟨rfl, hOp, hGx⟩; have hG := G.t hG hGx) | (go_at_call 29; refine (HM.out _ _ hOp).mono ?_; rintro e w' ⟨rfl, hGx⟩; have hG := G.t hG hGx))
    go_ret2
    exact ⟨rfl, hG⟩

set_option maxHeartbeats 4000000 in
theorem Many_err (north cols lofts wrong : Int) (east : List Int) (svs : List Sv) (ea sa : Option Addr) (ec sc : Nat) (w : World) (he : IntsAt w ea east) (hs : SvsAt w sa svs) (hl : east.length ≤ 9223372036854775807) (hl2 : svs.length ≤ 9223372036854775807)
    (hk : checkE north cols east lofts svs wrong ≠ 0) :
    Calls Try.prog 14 #[.agg #[.int .i64 north, .int .i64 cols, .slice ea east.length ec, .int .i64 lofts, .slice sa svs.length sc, .int .i64 wrong]] w fun e w' =>
      e = .returned (.tuple #[.int .i64 0, .int .i64 (checkE north cols east lofts svs wrong)]) ∧ G w w' := by
  have hC := fun (W : World) (hW : G w W) => Check_any north cols lofts wrong east svs ea sa ec sc W (he.below hW) (hs.below hW) hl hl2
  have hG1 : G w (w.alloc (.cells #[.int .i64 north, .int .i64 cols, .slice ea east.length ec, .int .i64 lofts, .slice sa svs.length sc, .int .i64 wrong] 25)) := (G.rf _).a _
  have HC := Lib.hid hC
  clear hC
  generalize checkE north cols east lofts svs wrong = E at *
  go_enter Try.func14, Try.ntmps14
  go_wp2_with (go_at_call 27; refine (HC.out _ hG1).mono ?_; rintro e w' ⟨rfl, hGx⟩; have hcy := (bcellB hGx).1; have hG := G.t hG1 hGx)
  go_ret2
  exact ⟨rfl, hG⟩
end Go.Proofs.Ytdneehbhncekaaa
set_option linter.unusedSimpArgs false
set_option linter.unusedVariables false
namespace Go.Proofs.Ytdneehbhncekaaa
open Go.RowKit

set_option maxHeartbeats 2000000 in
theorem question_err (north cols lofts wrong : Int) (east : List Int) (svs : List Sv) (ea sa : Option Addr) (ec sc : Nat) (d : Bool) (L : Value) (w : World) (he : IntsAt w ea east) (hs : SvsAt w sa svs) (hl : east.length ≤ 9223372036854775807) (hl2 : svs.length ≤ 9223372036854775807)
    (hk : checkE north cols east lofts svs wrong ≠ 0) :
    Calls Try.prog 16 #[.agg #[.int .i64 north, .int .i64 cols, .slice ea east.length ec, .int .i64 lofts, .slice sa svs.length sc, .int .i64 wrong], .bool d, L] w fun e w' =>
      e = .returned (.tuple #[.pointer none, .int .i64 (checkE north cols east lofts svs wrong)]) ∧ G w w' := by
  have hC := fun (W : World) (hW : G w W) => Check_any north cols lofts wrong east svs ea sa ec sc W (he.below hW) (hs.below hW) hl hl2
  have hG1 : G w (w.alloc (.cells #[.int .i64 north, .int .i64 cols, .slice ea east.length ec, .int .i64 lofts, .slice sa svs.length sc, .int .i64 wrong] 25)) := (G.rf _).a _
  have HC := Lib.hid hC
  clear hC
  generalize checkE north cols east lofts svs wrong = E at *
  go_enter Try.func16, Try.ntmps16
  go_wp2_with (go_at_call 27; refine (HC.out _ hG1).mono ?_; rintro e w' ⟨rfl, hGx⟩; have hcy := (bcellB hGx).1; have hG := G.t hG1 hGx)
  go_ret2
  exact ⟨rfl, hG⟩

/-- what a question answers of a valid map -/
def QPost (w : World) (north wrong : Int) (cols lofts : Nat) (east : List Int) (svs : List Sv) (ea sa : Option Addr) (ec sc : Nat) (D : Bool) (e : Ending) (w' : World) : Prop :=
  G w w' ∧ if D = false then e = .returned (.tuple #[.pointer none, .int .i64 1])
    else if wrong < fewSum north cols east svs lofts then e = .returned (.tuple #[.pointer none, .int .i64 3])
    else ∃ O, w.heap.size ≤ O ∧ e = .returned (.tuple #[.pointer (some ⟨O, 0, none⟩), .int .i64 0]) ∧ Opened w' O north wrong cols lofts (.slice ea east.length ec) (.slice sa svs.length sc) (fewSum north cols east svs lofts) (spotsOf north cols east svs)

set_option maxHeartbeats 4000000 in
theorem question_ok (north wrong : Int) (cols lofts : Nat) (east : List Int) (svs : List Sv) (ea sa : Option Addr) (ec sc : Nat) (d : Bool) (ls : List Int) (la : Option Addr) (lc : Nat) (w : World) (he : IntsAt w ea east) (hs : SvsAt w sa svs) (hls : IntsAt w la ls) (hll : ls.length ≤ 9223372036854775807)
    (hk : checkE north cols east lofts svs wrong = 0) :
    Calls Try.prog 16 #[.agg #[.int .i64 north, .int .i64 cols, .slice ea east.length ec, .int .i64 lofts, .slice sa svs.length sc, .int .i64 wrong], .bool d, .slice la ls.length lc] w
      (QPost w north wrong cols lofts east svs ea sa ec sc (d && ls.all fun n => isInB n 0 (lofts - 1))) := by
  obtain ⟨hv, hl2, hso⟩ := checkE_zero hk
  have hvb := vm_bounds hv
  have hlf : 0 ≤ (lofts : Int) ∧ (lofts : Int) ≤ 9223372036854775807 := by omega
  have hC := fun (W : World) (hW : G w W) => Check_any north cols lofts wrong east svs ea sa ec sc W (he.below hW) (hs.below hW) (by omega) (by omega)
  rw [hk] at hC
  have hO := fun (W : World) (hW : G w W) => open_any north wrong cols lofts east svs ea sa ec sc W (he.below hW) (hs.below hW) hl2 hv hso
  have hfs : fewSum north cols east svs lofts ≤ 128 := Nat.le_trans (fewSum_le north cols east svs lofts hl2) (by omega)
  have hS := fun (W : World) (O : Nat) (h : Opened W O north wrong cols lofts (.slice ea east.length ec) (.slice sa svs.length sc) (fewSum north cols east svs lofts) (spotsOf north cols east svs)) =>
    spare_any W h (by omega) hfs
  have hL := fun (W : World) (n : Int) => isLoft_any north cols lofts wrong n (.slice ea east.length ec) (.slice sa svs.length sc) W hlf
  have hG1 : G w (w.alloc (.cells #[.int .i64 north, .int .i64 cols, .slice ea east.length ec, .int .i64 lofts, .slice sa svs.length sc, .int .i64 wrong] 25)) := (G.rf _).a _
  have hB1 : Blk (w.alloc (.cells #[.int .i64 north, .int .i64 cols, .slice ea east.length ec, .int .i64 lofts, .slice sa svs.length sc, .int .i64 wrong] 25)) w.heap.size 25 #[.int .i64 north, .int .i64 cols, .slice ea east.length ec, .int .i64 lofts, .slice sa svs.length sc, .int .i64 wrong] := Blk.new _ _ _
  have HC := Lib.hid hC
  have HO := Lib.hid hO
  have HS := Lib.hid hS
  have HL := Lib.hid hL
  clear hC hO hS hL hk hvb hv
  go_enter Try.func16, Try.ntmps16
  go_wp2_with (go_at_call 27; refine (HC.out _ hG1).mono ?_; rintro e w' ⟨rfl, hGx⟩; have hcy := (bcellB hGx).1; have hG := G.t hG1 hGx; have hB := hB1.keep hGx)
  clear hcy hGx hG1 hB1 HC
  rename_i w'
  go_loopw [1, 19] (fun b i W' => ∃ k : Nat, k ≤ ls.length ∧ i = .int .i64 k ∧ b = .bool (d && (ls.take k).all fun n => isInB n 0 (lofts - 1)) ∧ G w W' ∧ Blk W' w.heap.size 25 #[.int .i64 north, .int .i64 cols, .slice ea east.length ec, .int .i64 lofts, .slice sa svs.length sc, .int .i64 wrong]) (fun _ i _ => ls.length - (intOf i).toNat)
  case atStart => exact ⟨0, Nat.zero_le _, rfl, by simp, hG, hB⟩
  case round =>
    clear hG hB
    obtain ⟨k, hk, rfl, rfl, hG, hB⟩ := hrel
    have m0 := hB.cell 0
    have m1 := hB.cell 1
    have m2 := hB.cell 2
    have m3 := hB.cell 3
    have m4 := hB.cell 4
    have m5 := hB.cell 5
    by_cases hlt : k < ls.length
    · have hls' := hls.below hG
      rcases hls' with rfl | ⟨b, off, rfl, hbb, hcell⟩
      · simp at hlt
      have hcx := hcell k hlt
      have hat := all_take_succ (fun n => isInB n 0 (lofts - 1)) ls k hlt
      have hki : (k : Int) < ls.length := by omega
      generalize ls.getD k 0 = x at hcx hat
      have HAT := Lib.hid hat
      clear hat hcell
      cases hb : (d && (ls.take k).all fun n => isInB n 0 (lofts - 1))
      · go_wp2_with (go_at_call 30; refine (HL.out _ _).mono ?_; rintro e w' ⟨rfl, hGx⟩)
        refine ⟨⟨k + 1, by omega, by simp, ?_, hG, hB⟩, by simp [intOf]; omega⟩
        rw [HAT.out, ← Bool.and_assoc, hb]; rfl
      · go_wp2_with (go_at_call 30; refine (HL.out _ _).mono ?_; rintro e w' ⟨rfl, hGx⟩)
        refine ⟨⟨k + 1, by omega, by simp, ?_, hG.t hGx, hB.keep hGx⟩, by simp [intOf]; omega⟩
        rw [HAT.out, ← Bool.and_assoc, hb]; rfl
    · have hta : ls.take k = ls := List.take_of_length_le (by omega)
      rw [hta]
      obtain ⟨D, hD⟩ : ∃ D, (d && ls.all fun n => isInB n 0 (lofts - 1)) = D := ⟨_, rfl⟩
      rw [hD]
      have HD := Lib.hid hD
      clear hD
      cases D
      · go_wp2
        go_ret2
        refine ⟨hG, ?_⟩
        rw [HD.out, if_pos rfl]
        rfl
      · by_cases hw : wrong - (fewSum north cols east svs lofts : Int) < 0
        · go_wp2_with (first | (go_at_call 28; refine (HO.out _ hG).mono ?_; rintro e w' ⟨rfl, hOp, hGx⟩; have hG := G.t hG hGx) | (go_at_call 31; refine (HS.out _ _ hOp).mono ?_; rintro e w' ⟨rfl, hGx⟩; have hG := G.t hG hGx))
          go_ret2
          refine ⟨hG, ?_⟩
          rw [HD.out, if_neg (by simp), if_pos (by omega)]
          rfl
        · go_wp2_with (first | (go_at_call 28; refine (HO.out _ hG).mono ?_; rintro e w' ⟨rfl, hOp, hGx⟩; have hGo := hG; have hG := G.t hG hGx) | (go_at_call 31; refine (HS.out _ _ hOp).mono ?_; rintro e w' ⟨rfl, hGx⟩; have hG := G.t hG hGx; have hOp := hOp.keep hGx))
          go_ret2
          refine ⟨hG, ?_⟩
          rw [HD.out, if_neg (by simp), if_neg (by omega)]
          exact ⟨_, by have := hGo.size; omega, rfl, hOp⟩
end Go.Proofs.Ytdneehbhncekaaa
