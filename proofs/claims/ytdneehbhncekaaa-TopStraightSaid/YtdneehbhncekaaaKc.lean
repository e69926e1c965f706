import Derived.Test.YtdneehbhncekaaaKb
import Derived.Shelf.Small.Bits
import Derived.Shelf.Strconv.Itoa0
import Derived.Shelf.Sort.Plain
import Derived.Ground.Names2Prog
import Derived.Shelf.Slices.CompactI
import Derived.Shelf.Slices.SearchI
import Derived.Shelf.Slices.Cells
import Derived.Shelf.Slices.In.SortNone
import Derived.Test.YtdneehbhncekaaaProg
import Derived.Lib.SlKeysI
set_option linter.unusedSimpArgs false
set_option linter.unusedVariables false
namespace Go.Proofs.Ytdneehbhncekaaa
open Go.RowKit Go.Shelf
attribute [local go_sem] Oper.semAt_some wide_fn wide_dep wideR_fn wideR_dep

abbrev At := Nat → Nat × Nat
def pc (f : At) : Array Value := #[.int .i64 (f 0).1, .int .i64 (f 0).2, .int .i64 (f 1).1, .int .i64 (f 1).2, .int .i64 (f 2).1, .int .i64 (f 2).2, .int .i64 (f 3).1, .int .i64 (f 3).2,
  .int .i64 (f 4).1, .int .i64 (f 4).2, .int .i64 (f 5).1, .int .i64 (f 5).2, .int .i64 (f 6).1, .int .i64 (f 6).2, .int .i64 (f 7).1, .int .i64 (f 7).2]
theorem pc_set (f : At) {l : Nat} (h : l < 8) (x y : Nat) : ((pc f).setIfInBounds (l * 2) (.int .i64 x)).setIfInBounds (l * 2 + 1) (.int .i64 y) = pc (upd f l (x, y)) := by
  match l, h with
  | 0, _ => rfl
  | 1, _ => rfl
  | 2, _ => rfl
  | 3, _ => rfl
  | 4, _ => rfl
  | 5, _ => rfl
  | 6, _ => rfl
  | 7, _ => rfl
theorem pc_get (f : At) {l : Nat} (h : l < 8) : (pc f)[l * 2]? = some (.int .i64 (f l).1) ∧ (pc f)[l * 2 + 1]? = some (.int .i64 (f l).2) := by
  match l, h with
  | 0, _ => exact ⟨rfl, rfl⟩
  | 1, _ => exact ⟨rfl, rfl⟩
  | 2, _ => exact ⟨rfl, rfl⟩
  | 3, _ => exact ⟨rfl, rfl⟩
  | 4, _ => exact ⟨rfl, rfl⟩
  | 5, _ => exact ⟨rfl, rfl⟩
  | 6, _ => exact ⟨rfl, rfl⟩
  | 7, _ => exact ⟨rfl, rfl⟩

/-- the places that some lofts have together, in the order in which they come -/
def settleL (rows : Nat → List Sp) : List Nat → At → Int → List At
  | [], f, _ => [f]
  | l :: ls, f, sp => (rows l).flatMap fun s => if (s.more : Int) ≤ sp then settleL rows ls (upd f l (s.x, s.y)) (sp - s.more) else []

/-- every block of cells but those of R lies as it lay -/
structure KC (R : Nat → TypeId → Prop) (W W' : World) : Prop where
  size : W.heap.size ≤ W'.heap.size
  block : ∀ i c t f, W.heap[i]? = some (.cells c t f) → ¬ R i t → W'.heap[i]? = some (.cells c t f)
section
variable {R : Nat → TypeId → Prop} {A B C : World}
theorem KC.rf (R : Nat → TypeId → Prop) (A : World) : KC R A A := ⟨Nat.le_refl _, fun _ _ _ _ h _ => h⟩
theorem KC.t (h : KC R A B) (k : KC R B C) : KC R A C := ⟨Nat.le_trans h.size k.size, fun i c t f hi hn => k.block i c t f (h.block i c t f hi hn) hn⟩
theorem G.kc (h : G A B) : KC R A B := ⟨h.size, fun i _ _ _ hi _ => (h.block i (Array.getElem?_eq_some_iff.1 hi).1).trans hi⟩
theorem KC.blk {g : Nat} {t : TypeId} {cs : Array Value} (h : KC R A B) (b : Blk A g t cs) (hn : ¬ R g t) : Blk B g t cs := h.block _ _ _ _ b hn
/-- .. a store beyond what lay in A -/
theorem KC.s (h : KC R A B) {p : Addr} (hp : A.heap.size ≤ p.block) (v : Value) : KC R A (B.setCell p v) :=
  ⟨by have := h.size; simpa [World.setCell] using this, fun i c t f hi hn => (Below.heap_setCell B p v i (by
    rintro rfl
    have := (Array.getElem?_eq_some_iff.1 hi).1
    omega)).trans (h.block i c t f hi hn)⟩
end
theorem SpotsAt.of {W W' : World} {v : Value} {l : List Sp} (h : SpotsAt W v l) (hk : ∀ g cur, Blk W g 110 cur → Blk W' g 110 cur) : SpotsAt W' v l := by
  obtain ⟨g, cap, rfl, ⟨cur, hg⟩, hc⟩ := h
  have hg' := hk g cur hg
  have c : ∀ o, W'.cell? ⟨g, o, none⟩ = W.cell? ⟨g, o, none⟩ := fun o => (hg'.cell o).trans (hg.cell o).symm
  exact ⟨g, cap, rfl, ⟨cur, hg'⟩, fun i hi => by rw [c, c, c]; exact hc i hi⟩

/-- what settle reads: the opened map at O, the lofts at g -/
def Env (O g : Nat) (gc oc0 : Array Value) (lofts : Nat) (slv : Nat → Value) (rows : Nat → List Sp) (W : World) : Prop :=
  Blk W O 99 oc0 ∧ (∀ j, j < lofts → SpotsAt W (slv j) (rows j)) ∧ Blk W g 3 gc
section
variable {O g : Nat} {gc oc0 : Array Value} {lofts : Nat} {slv : Nat → Value} {rows : Nat → List Sp} {W W' : World}
theorem Env.kc {R : Nat → TypeId → Prop} (h : Env O g gc oc0 lofts slv rows W) (k : KC R W W') (h1 : ∀ i, ¬ R i 99) (h2 : ∀ i, ¬ R i 110) (h3 : ¬ R g 3) : Env O g gc oc0 lofts slv rows W' :=
  ⟨k.blk h.1 (h1 _), fun j hj => (h.2.1 j hj).of (fun g cur hb => k.blk hb (h2 _)), k.blk h.2.2 h3⟩
theorem Env.kt {B : Nat} (h : Env O g gc oc0 lofts slv rows W) (k : Kt (· = 65) B W W') : Env O g gc oc0 lofts slv rows W' :=
  ⟨k.blk h.1 (.inr (by decide)), fun j hj => (h.2.1 j hj).of (fun g cur hb => k.blk hb (.inr (by decide))), k.blk h.2.2 (.inr (by decide))⟩
end

/-- the worlds that the call's own statement reads -/
def S8 (A C : Nat) (ca cc : Array Value) (W' : World) : Prop := Blk W' A 65 ca ∧ Blk W' C 110 cc

set_option maxRecDepth 100000 in
set_option maxHeartbeats 4000000 in
theorem settle_nil (l : Nat) (R : Nat → TypeId → Prop) (O g : Nat) (B0 : Nat) (Full : List At) (J Jx : List At → World → Prop) (hJ : StableT (· = 65) B0 J)
    (hY : ∀ m pre x W1, J pre W1 → pre ++ [x] <+: Full → YieldAt Fence.wide m Try.prog l #[.agg (pc x)] W1 fun e W' => (e = .returned (.bool true) ∧ J (pre ++ [x]) W' ∧ KC R W1 W') ∨ (e = .returned (.bool false) ∧ Jx (pre ++ [x]) W'))
    (n off cap : Nat) (f : At) (sp : Int) (pre : List At) (W : World) (hj : J pre W) (hN : pre ++ [f] <+: Full) :
      CallsIn Fence.wide n Try.prog 35 #[.pointer (some ⟨O, 0, none⟩), .slice (some ⟨g, off, none⟩) 0 cap, .agg (pc f), .int .i64 sp, .func (.yield l) #[] #[]] W fun e W' =>
        (e = .returned (.bool true) ∧ J (pre ++ [f]) W' ∧ KC R W W') ∨ (e = .returned (.bool false) ∧ Jx (pre ++ [f]) W') := by
  have hj1 : J pre (W.alloc (.cells (pc f) 65)) := hJ _ _ _ hj (G.kt ((G.rf W).a _))
  have hk1 : KC R W (W.alloc (.cells (pc f) 65)) := G.kc ((G.rf W).a _)
  obtain ⟨fn, tmps, assign, body, hy, hR⟩ := hY (n - 1) pre f _ hj1 hN
  replace hR := hR.mono (R' := fun e W' => (e = .returned (.bool true) ∧ J (pre ++ [f]) W' ∧ KC R W W') ∨ (e = .returned (.bool false) ∧ Jx (pre ++ [f]) W')) (fun e W' h => h.imp (fun ⟨a, b, c⟩ => ⟨a, b, hk1.t c⟩) id)
  unfold pc at hy hR
  clear hj1 hk1 hY hJ hj
  refine callsIn_of_wp Try.func35 rfl trivial ?_ rfl
  simp only [pc, Try.ntmps35, List.size_toArray, List.length_cons, List.length_nil, Nat.reduceAdd, Nat.reduceSub, Array.replicate_succ, Array.replicate_zero, List.push_toArray, List.append_toArray, List.nil_append, List.cons_append]
  gi_wp2
  refine hR.mono ?_
  rintro e W3 (⟨rfl, hJ3, hk3⟩ | ⟨rfl, hx3⟩)
  · gi_wp2
    go_ret
    exact .inl ⟨rfl, hJ3, hk3⟩
  · gi_wp2
    go_ret
    exact .inr ⟨rfl, hx3⟩
end Go.Proofs.Ytdneehbhncekaaa
set_option linter.unusedSimpArgs false
set_option linter.unusedVariables false
namespace Go.Proofs.Ytdneehbhncekaaa
open Go.RowKit Go.Shelf
attribute [local go_sem] Oper.semAt_some wide_fn wide_dep wideR_fn wideR_dep

section
variable {P : Program} {ops : Array Oper} {md : Region.Mode} {Q : Exit → Act → World → Prop} {S : World → Prop} {z : Nat}
theorem wpAnyY_oneW {i : Nat} {o : Oper} {fuel : Nat} {l : Array Bool} {a : Act} {w : World} (hr : Region.ready md ops l = [i]) (ho : ops[i]? = some o) (hz : (l.setIfInBounds i true).getD z false = true) (hw : Region.wanted o (yielded ops a.tmps) = true)
    (h : ∀ K' : Act → World → Prop, Shut (∀ a w, wpAnyY P md ops Q S z fuel (l.setIfInBounds i true) a w → K' a w) → Oper.wp P o a w K' Q) :
    wpAnyY P md ops Q S z (fuel + 1) l a w := wpAnyY_one hr ho hz (fun K' hK => by rw [if_pos hw]; exact h K' hK)
theorem wpAnyY_oneU {i : Nat} {o : Oper} {fuel : Nat} {l : Array Bool} {a : Act} {w : World} (hr : Region.ready md ops l = [i]) (ho : ops[i]? = some o) (hz : (l.setIfInBounds i true).getD z false = true) (hw : Region.wanted o (yielded ops a.tmps) = false)
    (h : wpAnyY P md ops Q S z fuel (l.setIfInBounds i true) (a.put o.dst undef) w) :
    wpAnyY P md ops Q S z (fuel + 1) l a w := wpAnyY_one hr ho hz (fun K' hK => by rw [if_neg (by rw [hw]; simp)]; exact hK.out _ _ h)
theorem wpAnyY_oneSW {i : Nat} {o : Oper} {fuel : Nat} {l : Array Bool} {a : Act} {w : World} (hr : Region.ready md ops l = [i]) (ho : ops[i]? = some o) (hw : Region.wanted o (yielded ops a.tmps) = true)
    (h : ∀ K' : Act → World → Prop, Shut (∀ a w, S w → (S w → wpAnyY P md ops Q S z fuel (l.setIfInBounds i true) a w) → K' a w) → Oper.wp P o a w K' Q) :
    wpAnyY P md ops Q S z (fuel + 1) l a w := wpAnyY_oneS hr ho (fun K' hK => by rw [if_pos hw]; exact h K' hK)
theorem wpAnyY_oneSU {i : Nat} {o : Oper} {fuel : Nat} {l : Array Bool} {a : Act} {w : World} (hr : Region.ready md ops l = [i]) (ho : ops[i]? = some o) (hw : Region.wanted o (yielded ops a.tmps) = false) (hS : S w)
    (h : wpAnyY P md ops Q S z fuel (l.setIfInBounds i true) (a.put o.dst undef) w) :
    wpAnyY P md ops Q S z (fuel + 1) l a w := wpAnyY_oneS hr ho (fun K' hK => by rw [if_neg (by rw [hw]; simp)]; exact hK.out _ _ hS (fun _ => h))
end

def stepL (rows : Nat → List Sp) (l : Nat) (ls : List Nat) (f : At) (sp : Int) (s : Sp) : List At := if (s.more : Int) ≤ sp then settleL rows ls (upd f l (s.x, s.y)) (sp - s.more) else []
theorem settleL_cons (rows : Nat → List Sp) (l : Nat) (ls : List Nat) (f : At) (sp : Int) : settleL rows (l :: ls) f sp = (rows l).flatMap (stepL rows l ls f sp) := rfl
theorem flatMap_take_succ {α β : Type} [Inhabited α] (k : α → List β) (r : List α) (q : Nat) (h : q < r.length) : (r.take (q + 1)).flatMap k = (r.take q).flatMap k ++ k (r.getD q default) := by
  rw [List.take_succ_eq_append_getElem h, List.flatMap_append]
  simp [h]
theorem flatMap_take_pre {α β : Type} (k : α → List β) (r : List α) (q : Nat) : (r.take q).flatMap k <+: r.flatMap k := by
  refine ⟨(r.drop q).flatMap k, ?_⟩
  rw [← List.flatMap_append, List.take_append_drop]

def InvS (R : Nat → TypeId → Prop) (A : Nat) (Ev : World → Prop) (f : At) (x : Nat) (W : World) (Jp : World → Prop) (wr : World) : Prop :=
  (∃ f' : At, Blk wr A 65 (pc f') ∧ ∀ p, upd f' x p = upd f x p) ∧ Ev wr ∧ Jp wr ∧ KC R W wr ∧ W.heap.size + 1 ≤ wr.heap.size

set_option maxRecDepth 100000 in
set_option maxHeartbeats 4000000 in
theorem settle_cons (l : Nat) (R : Nat → TypeId → Prop) (O g : Nat) (gc : Array Value) (north wrong : Int) (cols lofts : Nat) (E S : Value) (fs : Nat) (slv : Nat → Value) (rows : Nat → List Sp) (B0 : Nat) (Full : List At) (J Jx : List At → World → Prop)
    (hlo : lofts ≤ 8) (hrl : ∀ j, j < lofts → (rows j).length ≤ 100) (hR1 : ∀ i, ¬ R i 99) (hR2 : ∀ i, ¬ R i 110) (hR3 : ∀ i, ¬ R i 65) (hRg : ¬ R g 3) (hJ : StableT (· = 65) B0 J)
    (x : Nat) (ls : List Nat) (hln : ls.length ≤ 1000000)
    (ih : ∀ (off cap : Nat) (f : At) (sp : Int) (pre : List At) (W : World), (∀ x ∈ ls, x < lofts) → (∀ k, k < ls.length → gc[off + k]? = some (.int .i64 (ls.getD k 0 : Nat))) → ls.length ≤ cap → sp ≤ 3 → B0 ≤ W.heap.size →
      Env O g gc (oc north cols E lofts S wrong fs slv) lofts slv rows W → J pre W → pre ++ settleL rows ls f sp <+: Full →
      Calls Try.prog 35 #[.pointer (some ⟨O, 0, none⟩), .slice (some ⟨g, off, none⟩) ls.length cap, .agg (pc f), .int .i64 sp, .func (.yield l) #[] #[]] W fun e W' =>
        (e = .returned (.bool true) ∧ J (pre ++ settleL rows ls f sp) W' ∧ KC R W W') ∨ (e = .returned (.bool false) ∧ ∃ q, q <+: settleL rows ls f sp ∧ Jx (pre ++ q) W'))
    (n off cap : Nat) (f : At) (sp : Int) (pre : List At) (W : World) (hx : ∀ y ∈ x :: ls, y < lofts) (hgc : ∀ k, k < (x :: ls).length → gc[off + k]? = some (.int .i64 ((x :: ls).getD k 0 : Nat))) (hcap : (x :: ls).length ≤ cap) (hsp : sp ≤ 3) (hB0 : B0 ≤ W.heap.size)
    (hE : Env O g gc (oc north cols E lofts S wrong fs slv) lofts slv rows W) (hj : J pre W) (hN : pre ++ settleL rows (x :: ls) f sp <+: Full) :
      CallsIn Fence.wide n Try.prog 35 #[.pointer (some ⟨O, 0, none⟩), .slice (some ⟨g, off, none⟩) (x :: ls).length cap, .agg (pc f), .int .i64 sp, .func (.yield l) #[] #[]] W fun e W' =>
        (e = .returned (.bool true) ∧ J (pre ++ settleL rows (x :: ls) f sp) W' ∧ KC R W W') ∨ (e = .returned (.bool false) ∧ ∃ q, q <+: settleL rows (x :: ls) f sp ∧ Jx (pre ++ q) W') := by
  have HIH := Lib.hid ih
  clear ih
  have hxl : x < lofts := hx x List.mem_cons_self
  have hx8 : x < 8 := by omega
  have hx8' : (x : Int) < 8 := by omega
  have hE1 := hE.kt (G.kt (B := B0) ((G.rf W).a (.cells (pc f) 65)))
  have hj1 : J pre (W.alloc (.cells (pc f) 65)) := hJ _ _ _ hj (G.kt ((G.rf W).a _))
  have hk1 : KC R W (W.alloc (.cells (pc f) 65)) := G.kc ((G.rf W).a _)
  have bA := Blk.new W 65 (pc f)
  have hz1 : W.heap.size + 1 ≤ (W.alloc (.cells (pc f) 65)).heap.size := by simp
  have hgl : (W.alloc (.cells (pc f) 65)).cell? ⟨g, off, none⟩ = some (.int .i64 x) := (hE1.2.2.cell _).trans (hgc 0 (by simp))
  obtain ⟨gr, capr, hsv, ⟨_, hgb⟩, hsc⟩ := hE1.2.1 x hxl
  have hO : (W.alloc (.cells (pc f) 65)).cell? ⟨O, 7 + x, none⟩ = some (.slice (some ⟨gr, 0, none⟩) (rows x).length capr) := (hE1.1.cell _).trans ((oc_get hx8).trans (by rw [hsv]))
  clear hsc hgb
  have hrx := hrl x hxl
  rw [settleL_cons] at hN ⊢
  obtain ⟨ln, hln1⟩ : ∃ ln, (x :: ls).length = ln := ⟨_, rfl⟩
  have hln2 : ln = ls.length + 1 := by rw [← hln1]; rfl
  rw [hln1] at hcap ⊢
  have hl0 : ¬ (ln : Int) = 0 := by omega
  have hl0' : (0 : Int) < ln := by omega
  clear hln1
  refine callsIn_of_wp Try.func35 rfl trivial ?_ rfl
  unfold pc at hgl hO bA hE1 hj1 hk1 hz1 ⊢
  simp only [Try.ntmps35, List.size_toArray, List.length_cons, List.length_nil, Nat.reduceAdd, Nat.reduceSub, Array.replicate_succ, Array.replicate_zero, List.push_toArray, List.append_toArray, List.nil_append, List.cons_append]
  gi_wp2
  clear hgl hO hl0 hl0'
  generalize W.alloc (.cells #[.int .i64 (f 0).1, .int .i64 (f 0).2, .int .i64 (f 1).1, .int .i64 (f 1).2, .int .i64 (f 2).1, .int .i64 (f 2).2, .int .i64 (f 3).1, .int .i64 (f 3).2, .int .i64 (f 4).1, .int .i64 (f 4).2, .int .i64 (f 5).1, .int .i64 (f 5).2, .int .i64 (f 6).1, .int .i64 (f 6).2, .int .i64 (f 7).1, .int .i64 (f 7).2] 65) = W1 at *
  have hb0 : (((ls.length : Nat) : Int) + 1 == 0) = false := by
    rw [beq_eq_false_iff_ne]; omega
  rw [hb0]
  clear hb0
  gi_loopw [30] (fun i wr => ∃ q : Nat, q ≤ (rows x).length ∧ i = .int .i64 q ∧ InvS R W.heap.size (Env O g gc (oc north cols E lofts S wrong fs slv) lofts slv rows) f x W (J (pre ++ ((rows x).take q).flatMap (stepL rows x ls f sp))) wr) (fun i _ => (rows x).length - (intOf i).toNat)
  case atStart => exact ⟨0, Nat.zero_le _, rfl, ⟨f, bA, fun _ => rfl⟩, hE1, by simpa using hj1, hk1, hz1⟩
  case round =>
    clear hE1 hj1 hk1 bA hz1
    obtain ⟨q, hq, rfl, ⟨f', bA', hfu⟩, hEr, hjr, hkr, hzr⟩ := hrel
    by_cases hlq : q < (rows x).length
    · obtain ⟨gr2, capr2, hsv2, ⟨_, hgb⟩, hsc⟩ := hEr.2.1 x hxl
      obtain rfl : gr = gr2 := by rw [hsv] at hsv2; injection hsv2 with h1; injection h1 with h1; injection h1
      obtain ⟨c0, c1, c2⟩ := hsc q hlq
      have hft := flatMap_take_succ (stepL rows x ls f sp) (rows x) q hlq
      generalize (rows x).getD q default = s at c0 c1 c2 hft
      have lg := hgb.lt
      have lA' := bA'.lt
      have lqi : (q : Int) < (rows x).length := by omega
      have u1 := (pc_get f' hx8).1
      have u2 := (pc_get f' hx8).2
      have v1 : wr.cell? ⟨W.heap.size, x * 2, none⟩ = some (.int .i64 (f' x).1) := (bA'.cell _).trans u1
      have v2 : wr.cell? ⟨W.heap.size, x * 2 + 1, none⟩ = some (.int .i64 (f' x).2) := (bA'.cell _).trans u2
      have z1 := bA'.frozen (x * 2)
      have z2 := bA'.frozen (x * 2 + 1)
      have HFT := Lib.hid hft
      clear hft u1 u2 hsc hgb hsv2
      gi_wp2
      have hsz : ((wr.setCell ⟨W.heap.size, x * 2, none⟩ (.int .i64 s.x)).setCell ⟨W.heap.size, x * 2 + 1, none⟩ (.int .i64 s.y)).heap.size = wr.heap.size := by simp [World.setCell]
      have bA3 := ((bA'.set_ (x * 2) (.int .i64 s.x)).set_ (x * 2 + 1) (.int .i64 s.y)).alloc (.cells #[.int .i64 s.x, .int .i64 s.y, .int .i64 s.more] 110)
      rw [pc_set f' hx8, hfu] at bA3
      have bC3 := Blk.new ((wr.setCell ⟨W.heap.size, x * 2, none⟩ (.int .i64 s.x)).setCell ⟨W.heap.size, x * 2 + 1, none⟩ (.int .i64 s.y)) 110 #[.int .i64 s.x, .int .i64 s.y, .int .i64 s.more]
      rw [hsz] at bC3
      have kt3 : Kt (· = 65) B0 wr (((wr.setCell ⟨W.heap.size, x * 2, none⟩ (.int .i64 s.x)).setCell ⟨W.heap.size, x * 2 + 1, none⟩ (.int .i64 s.y)).alloc (.cells #[.int .i64 s.x, .int .i64 s.y, .int .i64 s.more] 110)) :=
        ((Kt.set (T := (· = 65)) bA' hB0 rfl _).t (Kt.set (T := (· = 65)) (bA'.set_ (x * 2) (.int .i64 s.x)) hB0 rfl _)).t (G.kt ((G.rf _).a _))
      have k3 : KC R W (((wr.setCell ⟨W.heap.size, x * 2, none⟩ (.int .i64 s.x)).setCell ⟨W.heap.size, x * 2 + 1, none⟩ (.int .i64 s.y)).alloc (.cells #[.int .i64 s.x, .int .i64 s.y, .int .i64 s.more] 110)) :=
        ((hkr.s (Nat.le_refl _) _).s (Nat.le_refl _) _).t (G.kc ((G.rf _).a _))
      generalize ((wr.setCell ⟨W.heap.size, x * 2, none⟩ (.int .i64 s.x)).setCell ⟨W.heap.size, x * 2 + 1, none⟩ (.int .i64 s.y)).alloc (.cells #[.int .i64 s.x, .int .i64 s.y, .int .i64 s.more] 110) = W3 at *
      have e3 := hEr.kt kt3
      have j3 := hJ _ _ _ hjr kt3
      have hz3 := k3.size
      clear kt3 hEr hjr hkr hzr bA' hfu v1 v2 z1 z2 c0 c1 c2 lg hsz
      by_cases hsm : (s.more : Int) ≤ sp
      · have hst : stepL rows x ls f sp s = settleL rows ls (upd f x (s.x, s.y)) (sp - s.more) := by unfold stepL; rw [if_pos hsm]
        have hw : IntKind.i64.wrap (sp - s.more) = sp - s.more := IntWalk.i64_in _ (by omega)
        have hlen2 : (pre ++ ((rows x).take q).flatMap (stepL rows x ls f sp)) ++ settleL rows ls (upd f x (s.x, s.y)) (sp - s.more) <+: Full := by
          have h1 := flatMap_take_pre (stepL rows x ls f sp) (rows x) (q + 1)
          rw [HFT.out, hst] at h1
          rw [List.append_assoc]
          exact List.IsPrefix.trans ((List.prefix_append_right_inj _).2 h1) hN
        obtain ⟨o2, ho2, hgc2⟩ : ∃ o2, (if cap = 1 then some (⟨g, off, none⟩ : Addr) else some ⟨g, off + 1, none⟩) = some ⟨g, o2, none⟩ ∧ ∀ k, k < ls.length → gc[o2 + k]? = some (.int .i64 (ls.getD k 0 : Nat)) := by
          by_cases h : cap = 1
          · exact ⟨off, by rw [if_pos h], fun k hk => by omega⟩
          · exact ⟨off + 1, by rw [if_neg h], fun k hk => by have := hgc (k + 1) (by simp; omega); rw [show off + 1 + k = off + (k + 1) by omega]; simpa using this⟩
        have hIH := fun (W' : World) (k : G W3 W') => HIH.out o2 (cap - 1) (upd f x (s.x, s.y)) (sp - s.more) (pre ++ ((rows x).take q).flatMap (stepL rows x ls f sp)) W' (fun y hy => hx y (List.mem_cons_of_mem _ hy))
          hgc2 (by omega) (by omega) (by have := k.size; omega) (e3.kt (B := B0) k.kt) (hJ _ _ _ j3 k.kt) hlen2
        rw [show ls.length = ln - 1 by omega] at hIH
        clear hlen2
        have hHu : ∀ p, upd (upd f x (s.x, s.y)) x p = upd f x p := fun p => by funext j; unfold upd; split <;> rfl
        generalize upd f x (s.x, s.y) = H at bA3 hIH hst hHu
        have HI := Lib.hid hIH
        have HLN := Lib.hid hln2
        clear hln2
        have HST := Lib.hid hst
        clear hIH hst
        have hl1 : (1 : Int) ≤ ln := by have := HLN.out; omega
        have hl2 : ln ≤ cap := hcap
        refine wpIn_region_Y (l := none) (S := S8 W.heap.size wr.heap.size (pc H) #[.int .i64 s.x, .int .i64 s.y, .int .i64 s.more]) 14 17 rfl (by kernel_rfl) (fun ⟨_, _, h⟩ => by rcases h with h | h <;> cases h.1) (by kernel_rfl) ⟨bA3, bC3⟩ (fun hS => ?_)
        have f1 : ∀ W', S8 W.heap.size wr.heap.size (pc H) #[.int .i64 s.x, .int .i64 s.y, .int .i64 s.more] W' → W'.cell? ⟨wr.heap.size, 2, none⟩ = some (.int .i64 s.more) := fun W' h => h.2.cell 2
        refine wpAnyY_take (i := 0) (v := ?_) rfl (by kernel_rfl) (by kernel_rfl) (by kernel_rfl) (by kernel_rfl) (fun _ _ _ h => h) (Or.inl ⟨by kernel_rfl, ?_⟩) (by assumption) ?_
        rotate_left
        · intro w' hSw; go_simp; with_reducible rfl
        try simp only [Act.put, List.setIfInBounds_toArray, List.set_cons_zero, List.set_cons_succ]
        refine wpAnyY_take (i := 1) (v := ?_) rfl (by kernel_rfl) (by kernel_rfl) (by kernel_rfl) (by kernel_rfl) (fun _ _ _ h => h) (Or.inl ⟨by kernel_rfl, ?_⟩) (by assumption) ?_
        rotate_left
        · intro w' hSw; go_simp; with_reducible rfl
        try simp only [Act.put, List.setIfInBounds_toArray, List.set_cons_zero, List.set_cons_succ]
        refine wpAnyY_take (i := 2) (v := ?_) rfl (by kernel_rfl) (by kernel_rfl) (by kernel_rfl) (by kernel_rfl) (fun _ _ _ h => h) (Or.inl ⟨by kernel_rfl, ?_⟩) (by assumption) ?_
        rotate_left
        · intro w' hSw; go_simp; with_reducible rfl
        try simp only [Act.put, List.setIfInBounds_toArray, List.set_cons_zero, List.set_cons_succ]
        refine wpAnyY_take (i := 3) (v := ?_) rfl (by kernel_rfl) (by kernel_rfl) (by kernel_rfl) (by kernel_rfl) (fun _ _ _ h => h) (Or.inl ⟨by kernel_rfl, ?_⟩) (by assumption) ?_
        rotate_left
        · intro w' hSw; go_simp; with_reducible rfl
        try simp only [Act.put, List.setIfInBounds_toArray, List.set_cons_zero, List.set_cons_succ]
        refine wpAnyY_take (i := 4) (v := ?_) rfl (by kernel_rfl) (by kernel_rfl) (by kernel_rfl) (by kernel_rfl) (fun _ _ _ h => h) (Or.inl ⟨by kernel_rfl, ?_⟩) (by assumption) ?_
        rotate_left
        · intro w' hSw; go_simp; with_reducible rfl
        try simp only [Act.put, List.setIfInBounds_toArray, List.set_cons_zero, List.set_cons_succ]
        refine wpAnyY_take (i := 5) (v := ?_) rfl (by kernel_rfl) (by kernel_rfl) (by kernel_rfl) (by kernel_rfl) (fun _ _ _ h => h) (Or.inl ⟨by kernel_rfl, ?_⟩) (by assumption) ?_
        rotate_left
        · intro w' hSw; go_simp; with_reducible rfl
        try simp only [Act.put, List.setIfInBounds_toArray, List.set_cons_zero, List.set_cons_succ]
        refine wpAnyY_take (i := 6) (v := ?_) rfl (by kernel_rfl) (by kernel_rfl) (by kernel_rfl) (by kernel_rfl) (fun _ _ _ h => h) (Or.inl ⟨by kernel_rfl, ?_⟩) (by assumption) ?_
        rotate_left
        · intro w' hSw; go_simp; with_reducible rfl
        try simp only [Act.put, List.setIfInBounds_toArray, List.set_cons_zero, List.set_cons_succ]
        refine wpAnyY_take (i := 8) (v := ?_) rfl (by kernel_rfl) (by kernel_rfl) (by kernel_rfl) (by kernel_rfl) (fun _ _ _ h => h) (Or.inl ⟨by kernel_rfl, ?_⟩) (by assumption) ?_
        rotate_left
        · intro w' hSw; have g0 : w'.cell? ⟨W.heap.size, 0, none⟩ = some (.int .i64 (H 0).1) := hSw.1.cell 0; have g1 : w'.cell? ⟨W.heap.size, 1, none⟩ = some (.int .i64 (H 0).2) := hSw.1.cell 1; have g2 : w'.cell? ⟨W.heap.size, 2, none⟩ = some (.int .i64 (H 1).1) := hSw.1.cell 2; have g3 : w'.cell? ⟨W.heap.size, 3, none⟩ = some (.int .i64 (H 1).2) := hSw.1.cell 3; have g4 : w'.cell? ⟨W.heap.size, 4, none⟩ = some (.int .i64 (H 2).1) := hSw.1.cell 4; have g5 : w'.cell? ⟨W.heap.size, 5, none⟩ = some (.int .i64 (H 2).2) := hSw.1.cell 5; have g6 : w'.cell? ⟨W.heap.size, 6, none⟩ = some (.int .i64 (H 3).1) := hSw.1.cell 6; have g7 : w'.cell? ⟨W.heap.size, 7, none⟩ = some (.int .i64 (H 3).2) := hSw.1.cell 7; have g8 : w'.cell? ⟨W.heap.size, 8, none⟩ = some (.int .i64 (H 4).1) := hSw.1.cell 8; have g9 : w'.cell? ⟨W.heap.size, 9, none⟩ = some (.int .i64 (H 4).2) := hSw.1.cell 9; have g10 : w'.cell? ⟨W.heap.size, 10, none⟩ = some (.int .i64 (H 5).1) := hSw.1.cell 10; have g11 : w'.cell? ⟨W.heap.size, 11, none⟩ = some (.int .i64 (H 5).2) := hSw.1.cell 11; have g12 : w'.cell? ⟨W.heap.size, 12, none⟩ = some (.int .i64 (H 6).1) := hSw.1.cell 12; have g13 : w'.cell? ⟨W.heap.size, 13, none⟩ = some (.int .i64 (H 6).2) := hSw.1.cell 13; have g14 : w'.cell? ⟨W.heap.size, 14, none⟩ = some (.int .i64 (H 7).1) := hSw.1.cell 14; have g15 : w'.cell? ⟨W.heap.size, 15, none⟩ = some (.int .i64 (H 7).2) := hSw.1.cell 15; go_simp; with_reducible rfl
        try simp only [Act.put, List.setIfInBounds_toArray, List.set_cons_zero, List.set_cons_succ]
        refine wpAnyY_take (i := 9) (v := ?_) rfl (by kernel_rfl) (by kernel_rfl) (by kernel_rfl) (by kernel_rfl) (fun _ _ _ h => h) (Or.inl ⟨by kernel_rfl, ?_⟩) (by assumption) ?_
        rotate_left
        · intro w' hSw; go_simp; with_reducible rfl
        try simp only [Act.put, List.setIfInBounds_toArray, List.set_cons_zero, List.set_cons_succ]
        refine wpAnyY_take (i := 10) (v := ?_) rfl (by kernel_rfl) (by kernel_rfl) (by kernel_rfl) (by kernel_rfl) (fun _ _ _ h => h) (Or.inl ⟨by kernel_rfl, ?_⟩) (by assumption) ?_
        rotate_left
        · intro w' hSw; go_simp; with_reducible rfl
        try simp only [Act.put, List.setIfInBounds_toArray, List.set_cons_zero, List.set_cons_succ]
        refine wpAnyY_take (i := 11) (v := ?_) rfl (by kernel_rfl) (by kernel_rfl) (by kernel_rfl) (by kernel_rfl) (fun _ _ _ h => h) (Or.inl ⟨by kernel_rfl, ?_⟩) (by assumption) ?_
        rotate_left
        · intro w' hSw; go_simp; with_reducible rfl
        try simp only [Act.put, List.setIfInBounds_toArray, List.set_cons_zero, List.set_cons_succ]
        refine wpAnyY_take (i := 12) (v := ?_) rfl (by kernel_rfl) (by kernel_rfl) (by kernel_rfl) (by kernel_rfl) (fun _ _ _ h => h) (Or.inl ⟨by kernel_rfl, ?_⟩) (by assumption) ?_
        rotate_left
        · intro w' hSw; go_simp; with_reducible rfl
        try simp only [Act.put, List.setIfInBounds_toArray, List.set_cons_zero, List.set_cons_succ]
        refine wpAnyY_take (i := 13) (v := ?_) rfl (by kernel_rfl) (by kernel_rfl) (by kernel_rfl) (by kernel_rfl) (fun _ _ _ h => h) (Or.inl ⟨by kernel_rfl, ?_⟩) (by assumption) ?_
        rotate_left
        · intro w' hSw; go_simp; with_reducible rfl
        try simp only [Act.put, List.setIfInBounds_toArray, List.set_cons_zero, List.set_cons_succ]
        refine wpAnyY_oneSW (i := 7) (by kernel_rfl) rfl (by kernel_rfl) (fun K7 hK7 => ?_)
        go_simp
        refine hK7.out _ _ hS (fun _ => ?_)
        try simp only [Act.put, List.setIfInBounds_toArray, List.set_cons_zero, List.set_cons_succ]
        refine wpAnyY_oneW (i := 14) (by kernel_rfl) rfl (by kernel_rfl) (by kernel_rfl) (fun K14 hK14 => ?_)
        go_simp
        try simp only [ho2]
        refine (HI.out _ (G.rf W3).d).mono ?_
        rintro e w4 (⟨rfl, hJ4, hk4⟩ | ⟨rfl, hx4⟩)
        · have inv : Hid (InvS R W.heap.size (Env O g gc (oc north cols E lofts S wrong fs slv) lofts slv rows) f x W (J (pre ++ ((rows x).take (q + 1)).flatMap (stepL rows x ls f sp))) w4) := by
            refine Lib.hid ⟨⟨H, hk4.blk (bA3.keep (G.rf W3).d) (hR3 _), hHu⟩, (e3.kt (B := B0) (G.kt (G.rf W3).d)).kc hk4 hR1 hR2 hRg, ?_, (k3.t (G.kc (G.rf W3).d)).t hk4, ?_⟩
            · rw [HFT.out, HST.out, ← List.append_assoc]; exact hJ4
            · have := hk4.size
              have hl3 := bA3.lt
              have h3 : W3.drew.heap.size = W3.heap.size := rfl
              omega
          clear hJ4 hk4 bA3 bC3 hS f1 hHu j3 k3 e3 HI
          refine hK14.out _ _ ?_
          try simp only [Act.put, List.setIfInBounds_toArray, List.set_cons_zero, List.set_cons_succ]
          refine wpAnyY_oneW (i := 15) (by kernel_rfl) rfl (by kernel_rfl) (by kernel_rfl) (fun K15 hK15 => ?_)
          go_simp
          refine hK15.out _ _ ?_
          try simp only [Act.put, List.setIfInBounds_toArray, List.set_cons_zero, List.set_cons_succ]
          refine wpAnyY_oneW (i := 16) (by kernel_rfl) rfl (by kernel_rfl) (by kernel_rfl) (fun K16 hK16 => ?_)
          go_simp
          refine hK16.out _ _ ?_
          try simp only [Act.put, List.setIfInBounds_toArray, List.set_cons_zero, List.set_cons_succ]
          refine wpAnyY_done (by kernel_rfl) ?_ _
          gi_wp2
          go_roundw
          case rel => exact ⟨q + 1, by omega, by simp, inv.out⟩
          case measure => simp [intOf]; omega
        · have fin : Hid (∃ q', q' <+: (rows x).flatMap (stepL rows x ls f sp) ∧ Jx (pre ++ q') w4) := by
            obtain ⟨q', hq', hx'⟩ := hx4
            refine Lib.hid ⟨((rows x).take q).flatMap (stepL rows x ls f sp) ++ q', ?_, by rw [← List.append_assoc]; exact hx'⟩
            refine List.IsPrefix.trans ?_ (flatMap_take_pre (stepL rows x ls f sp) (rows x) (q + 1))
            rw [HFT.out, HST.out]
            exact (List.prefix_append_right_inj _).2 hq'
          clear hx4 bA3 bC3 hS f1 hHu j3 k3 e3 HI
          refine hK14.out _ _ ?_
          try simp only [Act.put, List.setIfInBounds_toArray, List.set_cons_zero, List.set_cons_succ]
          refine wpAnyY_oneW (i := 15) (by kernel_rfl) rfl (by kernel_rfl) (by kernel_rfl) (fun K15 hK15 => ?_)
          go_simp
          refine hK15.out _ _ ?_
          try simp only [Act.put, List.setIfInBounds_toArray, List.set_cons_zero, List.set_cons_succ]
          refine wpAnyY_oneW (i := 16) (by kernel_rfl) rfl (by kernel_rfl) (by kernel_rfl) (fun K16 hK16 => ?_)
          go_simp
          refine hK16.out _ _ ?_
          try simp only [Act.put, List.setIfInBounds_toArray, List.set_cons_zero, List.set_cons_succ]
          refine wpAnyY_done (by kernel_rfl) ?_ _
          gi_wp2
          go_ret
          exact .inr ⟨rfl, fin.out⟩
      · have hst : stepL rows x ls f sp s = [] := by unfold stepL; rw [if_neg hsm]
        have hHu : ∀ p, upd (upd f x (s.x, s.y)) x p = upd f x p := fun p => by funext j; unfold upd; split <;> rfl
        generalize upd f x (s.x, s.y) = H at bA3 hHu
        have inv : Hid (InvS R W.heap.size (Env O g gc (oc north cols E lofts S wrong fs slv) lofts slv rows) f x W (J (pre ++ ((rows x).take (q + 1)).flatMap (stepL rows x ls f sp))) W3.drew) := by
          refine Lib.hid ⟨⟨H, bA3.keep (G.rf W3).d, hHu⟩, e3.kt (B := B0) (G.kt (G.rf W3).d), ?_, k3.t (G.kc (G.rf W3).d), ?_⟩
          · rw [HFT.out, hst, List.append_nil]; exact hJ _ _ _ j3 (G.kt (G.rf W3).d)
          · exact bA3.lt
        clear hst hHu j3 k3 e3
        have hsm' : ((s.more : Int) ≤ sp) = False := eq_false hsm
        refine wpIn_region_Y (l := none) (S := S8 W.heap.size wr.heap.size (pc H) #[.int .i64 s.x, .int .i64 s.y, .int .i64 s.more]) 16 17 rfl (by kernel_rfl) (fun ⟨_, _, h⟩ => by rcases h with h | h <;> cases h.1) (by kernel_rfl) ⟨bA3, bC3⟩ (fun hS => ?_)
        have f1 : ∀ W', S8 W.heap.size wr.heap.size (pc H) #[.int .i64 s.x, .int .i64 s.y, .int .i64 s.more] W' → W'.cell? ⟨wr.heap.size, 2, none⟩ = some (.int .i64 s.more) := fun W' h => h.2.cell 2
        refine wpAnyY_take (i := 0) (v := ?_) rfl (by kernel_rfl) (by kernel_rfl) (by kernel_rfl) (by kernel_rfl) (fun _ _ _ h => h) (Or.inl ⟨by kernel_rfl, ?_⟩) (by assumption) ?_
        rotate_left
        · intro w' hSw; go_simp; with_reducible rfl
        try simp only [Act.put, List.setIfInBounds_toArray, List.set_cons_zero, List.set_cons_succ]
        refine wpAnyY_take (i := 1) (v := ?_) rfl (by kernel_rfl) (by kernel_rfl) (by kernel_rfl) (by kernel_rfl) (fun _ _ _ h => h) (Or.inl ⟨by kernel_rfl, ?_⟩) (by assumption) ?_
        rotate_left
        · intro w' hSw; go_simp; with_reducible rfl
        try simp only [Act.put, List.setIfInBounds_toArray, List.set_cons_zero, List.set_cons_succ]
        refine wpAnyY_take (i := 2) (v := ?_) rfl (by kernel_rfl) (by kernel_rfl) (by kernel_rfl) (by kernel_rfl) (fun _ _ _ h => h) (Or.inl ⟨by kernel_rfl, ?_⟩) (by assumption) ?_
        rotate_left
        · intro w' hSw; go_simp; with_reducible rfl
        try simp only [Act.put, List.setIfInBounds_toArray, List.set_cons_zero, List.set_cons_succ]
        refine wpAnyY_take (i := 3) (v := ?_) rfl (by kernel_rfl) (by kernel_rfl) (by kernel_rfl) (by kernel_rfl) (fun _ _ _ h => h) (Or.inl ⟨by kernel_rfl, ?_⟩) (by assumption) ?_
        rotate_left
        · intro w' hSw; go_simp; with_reducible rfl
        try simp only [Act.put, List.setIfInBounds_toArray, List.set_cons_zero, List.set_cons_succ]
        refine wpAnyY_take (i := 4) (v := ?_) rfl (by kernel_rfl) (by kernel_rfl) (by kernel_rfl) (by kernel_rfl) (fun _ _ _ h => h) (Or.inl ⟨by kernel_rfl, ?_⟩) (by assumption) ?_
        rotate_left
        · intro w' hSw; go_simp; with_reducible rfl
        try simp only [Act.put, List.setIfInBounds_toArray, List.set_cons_zero, List.set_cons_succ]
        refine wpAnyY_take (i := 5) (v := undef) rfl (by kernel_rfl) (by kernel_rfl) (by kernel_rfl) (by kernel_rfl) (fun _ _ _ h => h) (Or.inr ⟨by kernel_rfl, rfl⟩) (by assumption) ?_
        try simp only [Act.put, List.setIfInBounds_toArray, List.set_cons_zero, List.set_cons_succ]
        refine wpAnyY_take (i := 6) (v := undef) rfl (by kernel_rfl) (by kernel_rfl) (by kernel_rfl) (by kernel_rfl) (fun _ _ _ h => h) (Or.inr ⟨by kernel_rfl, rfl⟩) (by assumption) ?_
        try simp only [Act.put, List.setIfInBounds_toArray, List.set_cons_zero, List.set_cons_succ]
        refine wpAnyY_take (i := 7) (v := undef) rfl (by kernel_rfl) (by kernel_rfl) (by kernel_rfl) (by kernel_rfl) (fun _ _ _ h => h) (Or.inr ⟨by kernel_rfl, rfl⟩) (by assumption) ?_
        try simp only [Act.put, List.setIfInBounds_toArray, List.set_cons_zero, List.set_cons_succ]
        refine wpAnyY_take (i := 8) (v := undef) rfl (by kernel_rfl) (by kernel_rfl) (by kernel_rfl) (by kernel_rfl) (fun _ _ _ h => h) (Or.inr ⟨by kernel_rfl, rfl⟩) (by assumption) ?_
        try simp only [Act.put, List.setIfInBounds_toArray, List.set_cons_zero, List.set_cons_succ]
        refine wpAnyY_take (i := 9) (v := undef) rfl (by kernel_rfl) (by kernel_rfl) (by kernel_rfl) (by kernel_rfl) (fun _ _ _ h => h) (Or.inr ⟨by kernel_rfl, rfl⟩) (by assumption) ?_
        try simp only [Act.put, List.setIfInBounds_toArray, List.set_cons_zero, List.set_cons_succ]
        refine wpAnyY_take (i := 10) (v := undef) rfl (by kernel_rfl) (by kernel_rfl) (by kernel_rfl) (by kernel_rfl) (fun _ _ _ h => h) (Or.inr ⟨by kernel_rfl, rfl⟩) (by assumption) ?_
        try simp only [Act.put, List.setIfInBounds_toArray, List.set_cons_zero, List.set_cons_succ]
        refine wpAnyY_take (i := 11) (v := undef) rfl (by kernel_rfl) (by kernel_rfl) (by kernel_rfl) (by kernel_rfl) (fun _ _ _ h => h) (Or.inr ⟨by kernel_rfl, rfl⟩) (by assumption) ?_
        try simp only [Act.put, List.setIfInBounds_toArray, List.set_cons_zero, List.set_cons_succ]
        refine wpAnyY_take (i := 12) (v := undef) rfl (by kernel_rfl) (by kernel_rfl) (by kernel_rfl) (by kernel_rfl) (fun _ _ _ h => h) (Or.inr ⟨by kernel_rfl, rfl⟩) (by assumption) ?_
        try simp only [Act.put, List.setIfInBounds_toArray, List.set_cons_zero, List.set_cons_succ]
        refine wpAnyY_take (i := 13) (v := undef) rfl (by kernel_rfl) (by kernel_rfl) (by kernel_rfl) (by kernel_rfl) (fun _ _ _ h => h) (Or.inr ⟨by kernel_rfl, rfl⟩) (by assumption) ?_
        try simp only [Act.put, List.setIfInBounds_toArray, List.set_cons_zero, List.set_cons_succ]
        refine wpAnyY_take (i := 14) (v := undef) rfl (by kernel_rfl) (by kernel_rfl) (by kernel_rfl) (by kernel_rfl) (fun _ _ _ h => h) (Or.inr ⟨by kernel_rfl, rfl⟩) (by assumption) ?_
        try simp only [Act.put, List.setIfInBounds_toArray, List.set_cons_zero, List.set_cons_succ]
        refine wpAnyY_take (i := 15) (v := undef) rfl (by kernel_rfl) (by kernel_rfl) (by kernel_rfl) (by kernel_rfl) (fun _ _ _ h => h) (Or.inr ⟨by kernel_rfl, rfl⟩) (by assumption) ?_
        try simp only [Act.put, List.setIfInBounds_toArray, List.set_cons_zero, List.set_cons_succ]
        refine wpAnyY_oneW (i := 16) (by kernel_rfl) rfl (by kernel_rfl) (by kernel_rfl) (fun K16 hK16 => ?_)
        go_simp
        refine hK16.out _ _ ?_
        try simp only [Act.put, List.setIfInBounds_toArray, List.set_cons_zero, List.set_cons_succ]
        refine wpAnyY_done (by kernel_rfl) ?_ _
        gi_wp2
        go_roundw
        case rel => exact ⟨_, _, .int .i64 ((q : Int) + 1), ⟨q + 1, by omega, by simp, inv.out⟩, rfl, rfl, rfl⟩
        case measure => simp [intOf]; omega
    · obtain rfl : q = (rows x).length := by omega
      rw [List.take_length] at hjr
      gi_wp2
      go_ret
      exact .inl ⟨rfl, hjr, hkr⟩

/-- **settle** yields, in their order, the places that the lofts can have together; what the body does is R's and J's -/
theorem settle_any (l : Nat) (R : Nat → TypeId → Prop) (O g : Nat) (gc : Array Value) (north wrong : Int) (cols lofts : Nat) (E S : Value) (fs : Nat) (slv : Nat → Value) (rows : Nat → List Sp) (B0 : Nat) (Full : List At) (J Jx : List At → World → Prop)
    (hlo : lofts ≤ 8) (hrl : ∀ j, j < lofts → (rows j).length ≤ 100) (hR1 : ∀ i, ¬ R i 99) (hR2 : ∀ i, ¬ R i 110) (hR3 : ∀ i, ¬ R i 65) (hRg : ¬ R g 3) (hJ : StableT (· = 65) B0 J)
    (hY : ∀ m pre x W1, J pre W1 → pre ++ [x] <+: Full → YieldAt Fence.wide m Try.prog l #[.agg (pc x)] W1 fun e W' => (e = .returned (.bool true) ∧ J (pre ++ [x]) W' ∧ KC R W1 W') ∨ (e = .returned (.bool false) ∧ Jx (pre ++ [x]) W')) :
    ∀ (ls : List Nat), ls.length ≤ 1000000 → ∀ (off cap : Nat) (f : At) (sp : Int) (pre : List At) (W : World), (∀ x ∈ ls, x < lofts) → (∀ k, k < ls.length → gc[off + k]? = some (.int .i64 (ls.getD k 0 : Nat))) → ls.length ≤ cap → sp ≤ 3 → B0 ≤ W.heap.size →
      Env O g gc (oc north cols E lofts S wrong fs slv) lofts slv rows W → J pre W → pre ++ settleL rows ls f sp <+: Full →
      Calls Try.prog 35 #[.pointer (some ⟨O, 0, none⟩), .slice (some ⟨g, off, none⟩) ls.length cap, .agg (pc f), .int .i64 sp, .func (.yield l) #[] #[]] W fun e W' =>
        (e = .returned (.bool true) ∧ J (pre ++ settleL rows ls f sp) W' ∧ KC R W W') ∨ (e = .returned (.bool false) ∧ ∃ q, q <+: settleL rows ls f sp ∧ Jx (pre ++ q) W')
  | [], _, off, cap, f, sp, pre, W, _, _, _, _, hB0, _, hj, hN => by
    refine (callsIn_wide.1 (settle_nil l R O g B0 Full J Jx hJ hY 0 off cap f sp pre W hj hN)).mono ?_
    rintro e w' (h | ⟨h, hx⟩)
    · exact .inl h
    · exact .inr ⟨h, [f], List.prefix_rfl, hx⟩
  | x :: ls, hln, off, cap, f, sp, pre, W, hx, hgc, hcap, hsp, hB0, hE, hj, hN => by
    have hln' : ls.length ≤ 1000000 := by simp at hln; omega
    exact callsIn_wide.1 (settle_cons l R O g gc north wrong cols lofts E S fs slv rows B0 Full J Jx hlo hrl hR1 hR2 hR3 hRg hJ x ls hln'
      (fun off cap f sp pre W a1 a2 a3 a4 a5 a6 a7 a8 => settle_any l R O g gc north wrong cols lofts E S fs slv rows B0 Full J Jx hlo hrl hR1 hR2 hR3 hRg hJ hY ls hln' off cap f sp pre W a1 a2 a3 a4 a5 a6 a7 a8)
      0 off cap f sp pre W hx hgc hcap hsp hB0 hE hj hN)
end Go.Proofs.Ytdneehbhncekaaa
namespace Go.Proofs
open Go.Shelf
def Try.lays128_ren : Go.Shelf.Ren := ⟨fun | 128 => 90 | n => n, fun | 51 => 140 | 3 => 3 | 4 => 4 | 46 => 125 | 5 => 5 | 9 => 9 | n => n, fun | n => n⟩
theorem Try.lays128 : Go.Proofs.Lays.n128 Try.prog Try.lays128_ren := {
  mixed := by kernel_rfl
  f128 := Try.func90.trans (congrArg some (by kernel_rfl))
  t3 := Try.underlying3
  a3 := Try.isAgg3
  z3 := Try.sizeOf3
  v3 := Try.zeroValue3
  t4 := Try.underlying4
  a4 := Try.isAgg4
  z4 := Try.sizeOf4
  v4 := Try.zeroValue4
  t5 := Try.underlying5
  a5 := Try.isAgg5
  z5 := Try.sizeOf5
  v5 := Try.zeroValue5
  t9 := Try.underlying9
  a9 := Try.isAgg9
  z9 := Try.sizeOf9
  v9 := Try.zeroValue9
  t46 := Try.underlying125
  a46 := Try.isAgg125
  z46 := Try.sizeOf125
  v46 := Try.zeroValue125
  t51 := Try.underlying140
  a51 := Try.isAgg140
  z51 := Try.sizeOf140
  v51 := Try.zeroValue140 }
/-- bits.Len32: "Len32 returns the minimum number of bits required to represent x; the result is 0 for x == 0.": IT RETURNS 'Lib.bitLen x'; the world is as it was. ('h0', 'h1': x is a uint32.) (LAID: no walk: one application.) -/
theorem Try.bits_Len32 (x : Int) (w : World) (h0 : 0 ≤ x) (h1 : x ≤ 4294967295) :
    Calls Try.prog 90 #[.int .u32 x] w fun e w' => e = .returned (.int .i64 (Lib.bitLen x.toNat)) ∧ w' = w := Any.bits_Len32 Try.lays128 x w h0 h1
def Try.lays125_ren : Go.Shelf.Ren := ⟨fun | 125 => 73 | 128 => 90 | 129 => 91 | n => n, fun | 46 => 125 | 3 => 3 | 51 => 140 | 53 => 142 | 4 => 4 | 5 => 5 | 9 => 9 | n => n, fun | n => n⟩
theorem Try.lays125 : Go.Proofs.Lays.n125 Try.prog Try.lays125_ren := {
  mixed := by kernel_rfl
  f125 := Try.func73.trans (congrArg some (by kernel_rfl))
  f128 := Try.func90.trans (congrArg some (by kernel_rfl))
  f129 := Try.func91.trans (congrArg some (by kernel_rfl))
  t3 := Try.underlying3
  a3 := Try.isAgg3
  z3 := Try.sizeOf3
  v3 := Try.zeroValue3
  t4 := Try.underlying4
  a4 := Try.isAgg4
  z4 := Try.sizeOf4
  v4 := Try.zeroValue4
  t5 := Try.underlying5
  a5 := Try.isAgg5
  z5 := Try.sizeOf5
  v5 := Try.zeroValue5
  t9 := Try.underlying9
  a9 := Try.isAgg9
  z9 := Try.sizeOf9
  v9 := Try.zeroValue9
  t46 := Try.underlying125
  a46 := Try.isAgg125
  z46 := Try.sizeOf125
  v46 := Try.zeroValue125
  t51 := Try.underlying140
  a51 := Try.isAgg140
  z51 := Try.sizeOf140
  v51 := Try.zeroValue140
  t53 := Try.underlying142
  a53 := Try.isAgg142
  z53 := Try.sizeOf142
  v53 := Try.zeroValue142 }
/-- bits.Len: "Len returns the minimum number of bits required to represent x; the result is 0 for x == 0.": IT RETURNS 'Lib.bitLen x'; the world is as it was. (A uint has 64 bits in the model.) ITS CALLEE bits.Len64 IS MET BY ITS OWN CONTRACT OFF THE SHELF (lay that first). (LAID: no walk: one application.) -/
theorem Try.bits_Len (x : Int) (w : World) (h0 : 0 ≤ x) (h1 : x ≤ 18446744073709551615) :
    Calls Try.prog 73 #[.int .u64 x] w fun e w' => e = .returned (.int .i64 (Lib.bitLen x.toNat)) ∧ w' = w := Any.bits_Len Try.lays125 x w h0 h1
def Try.lays129_ren : Go.Shelf.Ren := ⟨fun | 129 => 91 | n => n, fun | 53 => 142 | 3 => 3 | 4 => 4 | 46 => 125 | 5 => 5 | 9 => 9 | n => n, fun | n => n⟩
theorem Try.lays129 : Go.Proofs.Lays.n129 Try.prog Try.lays129_ren := {
  mixed := by kernel_rfl
  f129 := Try.func91.trans (congrArg some (by kernel_rfl))
  t3 := Try.underlying3
  a3 := Try.isAgg3
  z3 := Try.sizeOf3
  v3 := Try.zeroValue3
  t4 := Try.underlying4
  a4 := Try.isAgg4
  z4 := Try.sizeOf4
  v4 := Try.zeroValue4
  t5 := Try.underlying5
  a5 := Try.isAgg5
  z5 := Try.sizeOf5
  v5 := Try.zeroValue5
  t9 := Try.underlying9
  a9 := Try.isAgg9
  z9 := Try.sizeOf9
  v9 := Try.zeroValue9
  t46 := Try.underlying125
  a46 := Try.isAgg125
  z46 := Try.sizeOf125
  v46 := Try.zeroValue125
  t53 := Try.underlying142
  a53 := Try.isAgg142
  z53 := Try.sizeOf142
  v53 := Try.zeroValue142 }
/-- bits.Len64: "Len64 returns the minimum number of bits required to represent x; the result is 0 for x == 0.": IT RETURNS 'Lib.bitLen x'; the world is as it was. ('h0', 'h1': x is a uint64.) (LAID: no walk: one application.) -/
theorem Try.bits_Len64 (x : Int) (w : World) (h0 : 0 ≤ x) (h1 : x ≤ 18446744073709551615) :
    Calls Try.prog 91 #[.int .u64 x] w fun e w' => e = .returned (.int .i64 (Lib.bitLen x.toNat)) ∧ w' = w := Any.bits_Len64 Try.lays129 x w h0 h1
def Try.lays189_ren : Go.Shelf.Ren := ⟨fun | 189 => 56 | 125 => 73 | 257 => 72 | 128 => 90 | 129 => 91 | 294 => 81 | 295 => 82 | 296 => 83 | 297 => 84 | 298 => 85 | 299 => 86 | 216 => 87 | 300 => 88 | 301 => 89 | 328 => 94 | 329 => 95 | 330 => 96 | 331 => 97 | 332 => 98 | 215 => 99 | 343 => 100 | n => n, fun | 28 => 22 | 3 => 3 | 46 => 125 | 0 => 0 | 51 => 140 | 53 => 142 | 4 => 4 | 183 => 133 | 182 => 132 | 131 => 137 | 5 => 5 | 9 => 9 | 218 => 145 | 222 => 149 | 228 => 151 | 229 => 152 | n => n, fun | n => n⟩
theorem Try.lays189 : Go.Proofs.Lays.n189 Try.prog Try.lays189_ren := {
  mixed := by kernel_rfl
  f125 := Try.func73.trans (congrArg some (by kernel_rfl))
  f128 := Try.func90.trans (congrArg some (by kernel_rfl))
  f129 := Try.func91.trans (congrArg some (by kernel_rfl))
  f189 := Try.func56.trans (congrArg some (by kernel_rfl))
  f215 := Try.func99.trans (congrArg some (by kernel_rfl))
  f216 := Try.func87.trans (congrArg some (by kernel_rfl))
  f257 := Try.func72.trans (congrArg some (by kernel_rfl))
  f294 := Try.func81.trans (congrArg some (by kernel_rfl))
  f295 := Try.func82.trans (congrArg some (by kernel_rfl))
  f296 := Try.func83.trans (congrArg some (by kernel_rfl))
  f297 := Try.func84.trans (congrArg some (by kernel_rfl))
  f298 := Try.func85.trans (congrArg some (by kernel_rfl))
  f299 := Try.func86.trans (congrArg some (by kernel_rfl))
  f300 := Try.func88.trans (congrArg some (by kernel_rfl))
  f301 := Try.func89.trans (congrArg some (by kernel_rfl))
  f328 := Try.func94.trans (congrArg some (by kernel_rfl))
  f329 := Try.func95.trans (congrArg some (by kernel_rfl))
  f330 := Try.func96.trans (congrArg some (by kernel_rfl))
  f331 := Try.func97.trans (congrArg some (by kernel_rfl))
  f332 := Try.func98.trans (congrArg some (by kernel_rfl))
  f343 := Try.func100.trans (congrArg some (by kernel_rfl))
  t0 := Try.underlying0
  a0 := Try.isAgg0
  z0 := Try.sizeOf0
  v0 := Try.zeroValue0
  t3 := Try.underlying3
  a3 := Try.isAgg3
  z3 := Try.sizeOf3
  v3 := Try.zeroValue3
  t4 := Try.underlying4
  a4 := Try.isAgg4
  z4 := Try.sizeOf4
  v4 := Try.zeroValue4
  t5 := Try.underlying5
  a5 := Try.isAgg5
  z5 := Try.sizeOf5
  v5 := Try.zeroValue5
  t9 := Try.underlying9
  a9 := Try.isAgg9
  z9 := Try.sizeOf9
  v9 := Try.zeroValue9
  t28 := Try.underlying22
  a28 := Try.isAgg22
  z28 := Try.sizeOf22
  v28 := Try.zeroValue22
  t46 := Try.underlying125
  a46 := Try.isAgg125
  z46 := Try.sizeOf125
  v46 := Try.zeroValue125
  t51 := Try.underlying140
  a51 := Try.isAgg140
  z51 := Try.sizeOf140
  v51 := Try.zeroValue140
  t53 := Try.underlying142
  a53 := Try.isAgg142
  z53 := Try.sizeOf142
  v53 := Try.zeroValue142
  t131 := Try.underlying137
  a131 := Try.isAgg137
  z131 := Try.sizeOf137
  v131 := Try.zeroValue137
  t182 := Try.underlying132
  a182 := Try.isAgg132
  z182 := Try.sizeOf132
  v182 := Try.zeroValue132
  t183 := Try.underlying133
  a183 := Try.isAgg133
  z183 := Try.sizeOf133
  v183 := Try.zeroValue133
  t218 := Try.underlying145
  a218 := Try.isAgg145
  z218 := Try.sizeOf145
  v218 := Try.zeroValue145
  t222 := Try.underlying149
  a222 := Try.isAgg149
  z222 := Try.sizeOf149
  v222 := Try.zeroValue149
  t228 := Try.underlying151
  a228 := Try.isAgg151
  z228 := Try.sizeOf151
  v228 := Try.zeroValue151
  t229 := Try.underlying152
  a229 := Try.isAgg152
  z229 := Try.sizeOf152
  v229 := Try.zeroValue152 }
open Go.Sort Go.RowKit in
theorem Try.slices_Sort_int (blk off cap : Nat) (zs : List Int) (w : World) (hH : Holds (Value.int .i64) w blk off zs.toArray) (hblk : blk < w.heap.size) (hsz : zs.length < 4611686018427387904) :
    Calls Try.prog 56 #[.slice (some ⟨blk, off, none⟩) zs.length cap] w fun e w' =>
      e = .returned (.tuple #[]) ∧ ∃ n os, w' = grow (putRow (Value.int .i64) (Sort.ahead w n) blk off (zs.mergeSort fun x y => decide (x ≤ y)).toArray) os := Any.slices_Sort_int Try.lays189 blk off cap zs w hH hblk hsz
def Try.laysNm220_ren : Go.Shelf.Ren := ⟨fun | 20 => 36 | n => n, fun | 22 => 22 | 3 => 3 | 4 => 4 | 0 => 0 | n => n, fun | n => n⟩
theorem Try.laysNm220 : Go.Proofs.Lays2.n20 Try.prog Try.laysNm220_ren := {
  mixed := by kernel_rfl
  f20 := Try.func36.trans (congrArg some (by kernel_rfl))
  t0 := Try.underlying0
  a0 := Try.isAgg0
  z0 := Try.sizeOf0
  v0 := Try.zeroValue0
  t3 := Try.underlying3
  a3 := Try.isAgg3
  z3 := Try.sizeOf3
  v3 := Try.zeroValue3
  t4 := Try.underlying4
  a4 := Try.isAgg4
  z4 := Try.sizeOf4
  v4 := Try.zeroValue4
  t22 := Try.underlying22
  a22 := Try.isAgg22
  z22 := Try.sizeOf22
  v22 := Try.zeroValue22
  i3 := by kernel_rfl }
open Go.RowKit Go.Lib Go.Sort in
/-- slices.Compact at []int, over an array: the library's two loops are walked. (LAID: no walk: one application.) -/
theorem Try.slices_Compact_int_arr (blk off cap : Nat) (d : Array Int) (w : World) (hH : Holds encI w blk off d) (hsz : d.size ≤ 9223372036854775807) (hcap : d.size ≤ cap) :
    Calls Try.prog 36 #[.slice (some ⟨blk, off, none⟩) d.size cap] w fun e w' => e = .returned (.slice (some ⟨blk, off, none⟩) (compactUpTo d d.size).length cap) ∧ ∃ q, w' = putRow encI (Sort.ahead w q) blk off (compactUpTo d d.size ++ List.replicate (d.size - (compactUpTo d d.size).length) 0).toArray := Any.slices_Compact_int_arr Try.laysNm220 blk off cap d w hH hsz hcap
open Go.RowKit Go.Lib Go.Sort in
/-- slices.Compact at []int: "Compact replaces consecutive runs of equal elements with a single copy. This is like the uniq command found on Unix. Compact modifies the contents of the slice s and returns the modified slice, which may have a smaller length. Compact zeroes the elements between the new length and the original length. The result preserves the nilness of s.": IT RETURNS THE SLICE CUT TO 'Lib.compact zs'; ITS CELLS HOLD 'Lib.compact zs', THEN ZERO VALUES up to the old length; all else is as it was, but for the count of draws. IN THE WORDS OF slices.Sort's CONTRACT ('Holds', 'putRow'): so the everyday 'slices.Sort(xs); xs = slices.Compact(xs)' goes from the one contract to the other. It asks 'zs.length ≤ cap' (every slice's: the reslicing 's[:k]' looks at it). Length 0, nil: '.._empty'. (LAID: no walk: one application.) -/
theorem Try.slices_Compact_int (blk off cap : Nat) (zs : List Int) (w : World) (hH : Holds (Value.int .i64) w blk off zs.toArray) (hsz : zs.length ≤ 9223372036854775807) (hcap : zs.length ≤ cap) :
    Calls Try.prog 36 #[.slice (some ⟨blk, off, none⟩) zs.length cap] w fun e w' => e = .returned (.slice (some ⟨blk, off, none⟩) (Lib.compact zs).length cap) ∧ ∃ q, w' = putRow (Value.int .i64) (Sort.ahead w q) blk off (Lib.compact zs ++ List.replicate (zs.length - (Lib.compact zs).length) 0).toArray := Any.slices_Compact_int Try.laysNm220 blk off cap zs w hH hsz hcap
open Go.RowKit Go.Lib Go.Sort in
/-- The same at a slice of length 0, a nil one too: it comes back as it is. (LAID: no walk: one application.) -/
theorem Try.slices_Compact_int_empty (a : Option Addr) (cap : Nat) (w : World) :
    Calls Try.prog 36 #[.slice a 0 cap] w fun e w' => e = .returned (.slice a 0 cap) ∧ w' = w := Any.slices_Compact_int_empty Try.laysNm220 a cap w
def Try.laysNm237_ren : Go.Shelf.Ren := ⟨fun | 37 => 99 | n => n, fun | 3 => 3 | 4 => 4 | n => n, fun | n => n⟩
theorem Try.laysNm237 : Go.Proofs.Lays2.n37 Try.prog Try.laysNm237_ren := {
  mixed := by kernel_rfl
  f37 := Try.func99.trans (congrArg some (by kernel_rfl))
  t3 := Try.underlying3
  a3 := Try.isAgg3
  z3 := Try.sizeOf3
  v3 := Try.zeroValue3
  t4 := Try.underlying4
  a4 := Try.isAgg4
  z4 := Try.sizeOf4
  v4 := Try.zeroValue4 }
open Go.RowKit Go.Lib in
/-- cmp.isNaN[int]: 'x != x': false. (LAID: no walk: one application.) -/
theorem Try.cmp_isNaN_int2 (x : Int) (w : World) :
    Calls Try.prog 99 #[.int .i64 x] w fun e w' => e = .returned (.bool false) ∧ w' = w := Any.cmp_isNaN_int2 Try.laysNm237 x w
def Try.laysNm231_ren : Go.Shelf.Ren := ⟨fun | 31 => 87 | 37 => 99 | n => n, fun | 3 => 3 | 4 => 4 | n => n, fun | n => n⟩
theorem Try.laysNm231 : Go.Proofs.Lays2.n31 Try.prog Try.laysNm231_ren := {
  mixed := by kernel_rfl
  f31 := Try.func87.trans (congrArg some (by kernel_rfl))
  f37 := Try.func99.trans (congrArg some (by kernel_rfl))
  t3 := Try.underlying3
  a3 := Try.isAgg3
  z3 := Try.sizeOf3
  v3 := Try.zeroValue3
  t4 := Try.underlying4
  a4 := Try.isAgg4
  z4 := Try.sizeOf4
  v4 := Try.zeroValue4 }
open Go.RowKit Go.Lib in
/-- cmp.Less[int]: "Less reports whether x is less than y.": 'x < y'; the world is as it was. (LAID: no walk: one application.) -/
theorem Try.cmp_Less_int2 (x y : Int) (w : World) :
    Calls Try.prog 87 #[.int .i64 x, .int .i64 y] w fun e w' => e = .returned (.bool (decide (x < y))) ∧ w' = w := Any.cmp_Less_int2 Try.laysNm231 x y w
open Go.RowKit Go.Lib Go.Sort in
/-- slices.Compact at []int, of an argument: the slice cut to 'Lib.compact (elements)'; the n cells hold that, then zeros. (LAID: no walk: one application.) -/
theorem Try.slices_Compact_int_cells (b off n c : Nat) (zs : List Int) (w : World) (hz : n ≤ zs.length) (hbig : n ≤ 9223372036854775807) (hcap : n ≤ c) (hc : ∀ j, j < zs.length → w.cell? ⟨b, off + j, none⟩ = some (.int .i64 (zs.getD j 0))) (hf : ∀ j, j < n → w.frozen? ⟨b, off + j, none⟩ = false) :
    Calls Try.prog 36 #[.slice (some ⟨b, off, none⟩) n c] w fun e w' => e = .returned (.slice (some ⟨b, off, none⟩) (Lib.compact (zs.take n)).length c) ∧ ∃ q, w' = (w.drewN q).setCells b off ((Lib.compact (zs.take n) ++ List.replicate (n - (Lib.compact (zs.take n)).length) 0).map (Value.int .i64)) := Any.slices_Compact_int_cells Try.laysNm220 b off n c zs w hz hbig hcap hc hf
open Go.RowKit Go.Sort in
/-- .. and plain. (LAID: no walk: one application.) -/
theorem Try.slices_Sort_int_none (p : Option Addr) (cap : Nat) (w : World) :
    Calls Try.prog 56 #[.slice p 0 cap] w fun e w' => e = .returned (.tuple #[]) ∧ w' = w := Any.slices_Sort_int_none Try.lays189 p cap w
end Go.Proofs
set_option linter.unusedSimpArgs false
set_option linter.unusedVariables false
namespace Go.Proofs.Ytdneehbhncekaaa
open Go.RowKit Go.Shelf Go.Sort

def sortL (ls : List Int) : List Int := ls.mergeSort fun x y => decide (x ≤ y)
theorem sortL_len (ls : List Int) : (sortL ls).length = ls.length := List.length_mergeSort ls

section
variable (B g off cap : Nat) (ls : List Int) (hlen : ls.length ≤ 1000000) (h1 : 1 ≤ ls.length) (w : World) (hBs : Blk w B 22 #[.slice (some ⟨g, off, none⟩) ls.length cap]) (hg : g < w.heap.size) (hI : IntsIn w g off ls)
include hlen hBs hg hI
theorem Collect_any : Calls Try.prog 55 #[.func (.func 57) #[] #[.pointer (some ⟨B, 0, none⟩)]] w fun e w' =>
      ∃ v, e = .returned v ∧ w'.ownsRow w.heap.size 3 1 v ls.length (ls.map (Value.int .i64)) ∧ G w w' := by
  have hA := callsIn_wide.1 (appendSeq_in 3 (by omega) B g off cap ls hlen w hBs hg hI)
  go_enter Try.func55, Try.ntmps55
  go_wp2_with (go_at_call 71; refine hA.mono ?_; rintro e w' ⟨v, rfl, hr, hG⟩)
  go_ret
  exact ⟨v, rfl, hr, hG⟩

include h1
theorem Sorted_any : Calls Try.prog 33 #[.func (.func 57) #[] #[.pointer (some ⟨B, 0, none⟩)]] w fun e w' =>
      ∃ g' cap', e = .returned (.slice (some ⟨g', 0, none⟩) ls.length cap') ∧ w'.ownsRow w.heap.size 3 1 (.slice (some ⟨g', 0, none⟩) ls.length cap') ls.length ((sortL ls).map (Value.int .i64)) ∧ G w w' := by
  have hC := Collect_any B g off cap ls hlen w hBs hg hI
  have hS : ∀ (v : Value) (W : World), W.ownsRow w.heap.size 3 1 v ls.length (ls.map (Value.int .i64)) → G w W → Calls Try.prog 56 #[v] W fun e w' => ∃ g' cap', v = .slice (some ⟨g', 0, none⟩) ls.length cap' ∧ e = .returned (.tuple #[]) ∧
      w'.ownsRow w.heap.size 3 1 (.slice (some ⟨g', 0, none⟩) ls.length cap') ls.length ((sortL ls).map (Value.int .i64)) ∧ G w w' := by
    intro v W hrow hG
    rcases hrow.2 with ⟨_, hz⟩ | ⟨gb, cap, cur, rfl, hbase, hgb, r1, r2, r3, r4⟩
    · omega
    · have hH : Holds encZ W gb 0 ls.toArray := holds_of_block_i hgb (by simpa using r4)
      refine (Try.slices_Sort_int gb 0 cap ls W hH (Array.getElem?_eq_some_iff.1 hgb).1 (by omega)).mono ?_
      rintro e w' ⟨rfl, nn, os, rfl⟩
      exact ⟨gb, cap, rfl, rfl, ownsRow_sorted_i (sortL_len ls) hbase hgb r1 r2 r3, hG.grown (grownBy_sorted_i _) hG.size (fun j hj => by cases hj; exact hbase)⟩
  go_enter Try.func33, Try.ntmps33
  go_wp2_with (first | (go_at_call 55; refine hC.mono ?_; rintro e w' ⟨v, rfl, hr, hG⟩) | (go_at_call 56; refine (hS _ _ hr hG).mono ?_; rintro e w' ⟨g', cap', rfl, rfl, hr2, hG2⟩))
  go_ret
  exact ⟨g', cap', rfl, hr2, hG2⟩
end
end Go.Proofs.Ytdneehbhncekaaa
set_option linter.unusedSimpArgs false
set_option linter.unusedVariables false
namespace Go.Proofs.Ytdneehbhncekaaa
open Go.RowKit Go.Shelf

theorem Blk.setCells {g : Nat} {t : TypeId} : ∀ (vs : List Value) (o : Nat) {W : World} {cs : Array Value}, Blk W g t cs →
    ∃ cs', Blk (W.setCells g o vs) g t cs' ∧ cs'.size = cs.size ∧ (∀ k, o + k < cs.size → k < vs.length → cs'[o + k]? = vs[k]?) ∧ (∀ j, j < o → cs'[j]? = cs[j]?)
  | [], o, W, cs, h => ⟨cs, h, rfl, fun k _ hk => by simp at hk, fun _ _ => rfl⟩
  | v :: r, o, W, cs, h => by
    obtain ⟨cs', h1, h2, h3, h4⟩ := Blk.setCells r (o + 1) (h.set_ o v)
    refine ⟨cs', h1, by simpa using h2, fun k hk hv => ?_, fun j hj => ?_⟩
    · cases k with
      | zero =>
        rw [h4 (o + 0) (by omega)]
        have : o < cs.size := hk
        simp [this]
      | succ k =>
        have h5 := h3 k (by simp; omega) (by simpa using hv)
        rw [show o + (k + 1) = o + 1 + k by omega, h5]
        simp
    · rw [h4 j (by omega), Array.getElem?_setIfInBounds, if_neg (by omega)]
theorem Kt.setCells {T : TypeId → Prop} {B g : Nat} {t : TypeId} (hB : B ≤ g) (hT : T t) : ∀ (vs : List Value) (o : Nat) {W : World} {cs : Array Value}, Blk W g t cs → Kt T B W (W.setCells g o vs)
  | [], _, W, _, _ => Kt.rf _ _ _
  | v :: r, o, W, cs, h => (Kt.set h hB hT v).t (Kt.setCells hB hT r (o + 1) (h.set_ o v))
theorem Kt.imp {T T' : TypeId → Prop} {B : Nat} {X Y : World} (hT : ∀ t, T t → T' t) (h : Kt T B X Y) : Kt T' B X Y :=
  ⟨h.os, h.tape, h.output, h.size, fun i o hi hc => h.block i o hi (hc.imp id (fun hf c t f e ht => hf c t f e (hT t ht)))⟩

theorem compact_mem {zs : List Int} {x : Int} (h : x ∈ Lib.compact zs) : x ∈ zs := by
  unfold Lib.compact Lib.compactUpTo at h
  obtain ⟨j, hj, rfl⟩ := List.mem_map.1 h
  have hj2 := (List.mem_filter.1 hj).1
  simp at hj2
  simp [hj2]

/-- the lofts that are named, in order, each once -/
def namesOf (ls : List Nat) : List Nat := (Lib.compact (sortL (ls.map fun n : Nat => (n : Int)))).map Int.toNat
theorem namesZ_nat {ls : List Nat} {x : Int} (h : x ∈ Lib.compact (sortL (ls.map fun n : Nat => (n : Int)))) : ∃ n ∈ ls, x = (n : Int) := by
  have h1 := compact_mem h
  unfold sortL at h1
  rw [List.mem_mergeSort] at h1
  obtain ⟨n, hn, rfl⟩ := List.mem_map.1 h1
  exact ⟨n, hn, rfl⟩
theorem namesOf_mem {ls : List Nat} {x : Nat} (h : x ∈ namesOf ls) : x ∈ ls := by
  obtain ⟨y, hy, rfl⟩ := List.mem_map.1 h
  obtain ⟨n, hn, rfl⟩ := namesZ_nat hy
  simpa using hn
theorem namesOf_len (ls : List Nat) : (namesOf ls).length ≤ ls.length := by
  unfold namesOf
  rw [List.length_map]
  refine Nat.le_trans (Lib.compact_length_le _) ?_
  rw [sortL_len, List.length_map]
  exact Nat.le_refl _

/-- Compact at a block of ints that lies alone -/
theorem Compact_blk (w : World) (g cap : Nat) (zs : List Int) (cur : Array Value) (hb : Blk w g 3 cur) (hl : zs.length ≤ 1000000) (hc : zs.length ≤ cap) (hcs : cur.size = cap) (hcur : cur.toList.take zs.length = zs.map (Value.int .i64)) :
    Calls Try.prog 36 #[.slice (some ⟨g, 0, none⟩) zs.length cap] w fun e w' => ∃ gc q vs, e = .returned (.slice (some ⟨g, 0, none⟩) (Lib.compact zs).length cap) ∧ Blk w' g 3 gc ∧
      (∀ k, k < (Lib.compact zs).length → gc[0 + k]? = some (.int .i64 ((Lib.compact zs).getD k 0))) ∧ w' = (w.drewN q).setCells g 0 vs := by
  have hcell : ∀ j, j < zs.length → w.cell? ⟨g, 0 + j, none⟩ = some (.int .i64 (zs.getD j 0)) := fun j hj => by
    rw [hb.cell]
    have h1 : (cur.toList.take zs.length)[j]? = (zs.map (Value.int .i64))[j]? := by rw [hcur]
    rw [List.getElem?_take_of_lt hj] at h1
    rw [Nat.zero_add]
    simpa [hj] using h1
  refine (Try.slices_Compact_int_cells g 0 zs.length cap zs w (Nat.le_refl _) (by omega) hc hcell (fun j _ => hb.frozen _)).mono ?_
  rintro e w' ⟨rfl, q, rfl⟩
  rw [List.take_length]
  have hb2 : Blk (w.drewN q) g 3 cur := hb
  obtain ⟨gc, h1, h2, h3, _⟩ := Blk.setCells ((Lib.compact zs ++ List.replicate (zs.length - (Lib.compact zs).length) 0).map (Value.int .i64)) 0 hb2
  refine ⟨gc, q, _, rfl, h1, fun k hk => ?_, rfl⟩
  have hle := Lib.compact_length_le zs
  rw [h3 k (by omega) (by simp; omega), List.getElem?_map, List.getElem?_append_left hk]
  simp [hk]
end Go.Proofs.Ytdneehbhncekaaa
set_option linter.unusedSimpArgs false
set_option linter.unusedVariables false
namespace Go.Proofs.Ytdneehbhncekaaa
open Go.RowKit Go.Shelf
attribute [local go_sem] Oper.semAt_some wide_fn wide_dep wideR_fn wideR_dep

theorem yieldAt_wide {n : Nat} {P : Program} {l : Nat} {args : Array Value} {W : World} {R : Ending → World → Prop} (m : Nat) (h : YieldAt Fence.wide n P l args W R) : YieldAt Fence.wide m P l args W R := by
  obtain ⟨fn, tmps, assign, body, hy, hf, hR⟩ := h
  exact ⟨fn, tmps, assign, body, hy, hf, fun c cs _ => hR c cs (room_wide _)⟩

theorem namesOf_get (ls : List Nat) (k : Nat) (hk : k < (Lib.compact (sortL (ls.map fun n : Nat => (n : Int)))).length) :
    (Lib.compact (sortL (ls.map fun n : Nat => (n : Int)))).getD k 0 = (((namesOf ls).getD k 0 : Nat) : Int) := by
  obtain ⟨n, _, hn⟩ := namesZ_nat (List.getElem_mem hk)
  simp [namesOf, hk, hn]

def T2 (t : TypeId) : Prop := t = 65 ∨ t = 3
/-- the truths of some lofts, as places, in the order in which they are yielded -/
def truthsOf (rows : Nat → List Sp) (ls : List Nat) (sp : Int) : List At := settleL rows (namesOf ls) (fun _ => (0, 0)) sp

/-- what the iterator reads: the opened map, its box, the lofts' box and the lofts -/
def SeqAt (O OB LB g0 off0 cap : Nat) (ls : List Nat) (oc0 : Array Value) (lofts : Nat) (slv : Nat → Value) (rows : Nat → List Sp) (W : World) : Prop :=
  (Blk W O 99 oc0 ∧ ∀ j, j < lofts → SpotsAt W (slv j) (rows j)) ∧ Blk W OB 58 #[.pointer (some ⟨O, 0, none⟩)] ∧ Blk W LB 22 #[.slice (some ⟨g0, off0, none⟩) ls.length cap] ∧ g0 < W.heap.size ∧ IntsIn W g0 off0 (ls.map fun n : Nat => (n : Int))
theorem SeqAt.keep {O OB LB g0 off0 cap : Nat} {ls : List Nat} {oc0 : Array Value} {lofts : Nat} {slv : Nat → Value} {rows : Nat → List Sp} {W W' : World} (h : SeqAt O OB LB g0 off0 cap ls oc0 lofts slv rows W) (hg : G W W') : SeqAt O OB LB g0 off0 cap ls oc0 lofts slv rows W' := by
  obtain ⟨⟨h1, h2⟩, h3, h4, h5, h6⟩ := h
  exact ⟨⟨h1.keep hg, fun j hj => (h2 j hj).keep (fun g hl _ => hg.block g hl) hg.size⟩, h3.keep hg, h4.keep hg, Nat.lt_of_lt_of_le h5 hg.size, h6.kb (hg.block _ h5)⟩

set_option maxHeartbeats 4000000 in
theorem truths_seq (n : Nat) (R : Nat → TypeId → Prop) (O OB LB g0 off0 cap : Nat) (ls : List Nat) (north wrong : Int) (cols lofts : Nat) (E S : Value) (fs : Nat) (slv : Nat → Value) (rows : Nat → List Sp) (w : World)
    (hlo : lofts ≤ 8) (hrl : ∀ j, j < lofts → (rows j).length ≤ 100) (hR1 : ∀ i, ¬ R i 99) (hR2 : ∀ i, ¬ R i 110) (hR3 : ∀ i, ¬ R i 65) (hRg : ∀ i, w.heap.size ≤ i → ¬ R i 3)
    (hw : 0 ≤ wrong ∧ wrong ≤ 3) (hf : fs ≤ 128) (hl1 : 1 ≤ ls.length) (hl2 : ls.length ≤ 1000000) (hll : ∀ x ∈ ls, x < lofts)
    (hA : SeqAt O OB LB g0 off0 cap ls (oc north cols E lofts S wrong fs slv) lofts slv rows w) :
    SeqT T2 Fence.wide n Try.prog 32 #[.pointer (some ⟨LB, 0, none⟩), .pointer (some ⟨OB, 0, none⟩)] (fun x : { f : At // f ∈ truthsOf rows ls (wrong - fs) } => .agg (pc x.1)) (KC R)
      (fun xs => xs.map (·.1) = truthsOf rows ls (wrong - fs)) (fun q => q.map (·.1) <+: truthsOf rows ls (wrong - fs)) (truthsOf rows ls (wrong - fs)).length w := by
  intro l J Jx W hW hJ hJx hY h0
  refine callsIn_wide.2 ?_
  have hA := hA.keep hW
  obtain ⟨⟨hO, hSp⟩, hOB, hLB, hg0, hI⟩ := hA
  have hV := fun (W' : World) => Values_any (some ⟨g0, off0, none⟩) ls.length cap W'
  have c1 : W.cell? ⟨LB, 0, none⟩ = some (.slice (some ⟨g0, off0, none⟩) ls.length cap) := hLB.cell 0
  have c2 : W.cell? ⟨OB, 0, none⟩ = some (.pointer (some ⟨O, 0, none⟩)) := hOB.cell 0
  have hSo := Sorted_any W.heap.size g0 off0 cap (ls.map fun n : Nat => (n : Int)) (by simpa using hl2) (by simpa using hl1) (W.alloc (.cells #[.slice (some ⟨g0, off0, none⟩) ls.length cap] 22)) (by simpa using Blk.new W 22 #[.slice (some ⟨g0, off0, none⟩) ls.length cap]) (by simp; omega) (hI.kb (((G.rf W).a _).block _ hg0))
  have HSo := Lib.hid hSo
  clear hSo
  go_enter Try.func32, Try.ntmps32
  go_wp2_with (first | (go_at_call 34; refine (hV _).mono ?_; rintro e w' ⟨rfl, rfl⟩) | (go_at_call 33; refine HSo.out.mono ?_; rintro e w' ⟨g', cap', rfl, hr, hG⟩))
  have hzl : (sortL (ls.map fun n : Nat => (n : Int))).length = ls.length := by rw [sortL_len, List.length_map]
  have hc0 : ∃ cur, Blk w' g' 3 cur ∧ W.heap.size ≤ g' ∧ ls.length ≤ cap' ∧ cur.size = cap' ∧ cur.toList.take ls.length = (sortL (ls.map fun n : Nat => (n : Int))).map (Value.int .i64) := by
    rcases hr.2 with ⟨h, _⟩ | ⟨gb, cap2, cur, heq, hbase, hgb, r1, r2, r3, r4⟩
    · cases h
    · cases heq
      have hb2 := (G.a (G.rf W) (.cells #[.slice (some ⟨g0, off0, none⟩) ls.length cap] 22)).size
      rw [List.length_map] at r1 r4
      exact ⟨cur, hgb, by omega, r1, by simpa using r3, by simpa using r4⟩
  obtain ⟨cur, hcu, hgW, hcap, hcs, hct⟩ := hc0
  have hGW : G W w'.drew := (G.t ((G.rf W).a _) hG).d
  have hcu2 : Blk w'.drew g' 3 cur := hcu
  have hComp := Compact_blk w'.drew g' cap' _ cur hcu2 (by rw [hzl]; exact hl2) (by rw [hzl]; exact hcap) hcs (by rw [hzl]; exact hct)
  rw [hzl] at hComp
  have hkt : ∀ q vs, Kt T2 W.heap.size W ((w'.drew.drewN q).setCells g' 0 vs) := fun q vs => (G.kt (hGW.dn q)).t (Kt.setCells hgW (.inr rfl) vs 0 (show Blk (w'.drew.drewN q) g' 3 cur from hcu))
  have hOBl := hOB.lt
  have HComp := Lib.hid hComp
  have HKt := Lib.hid hkt
  clear hComp hkt hct hr HSo hV c1 hcu
  have hOB2 := hOB.keep hGW
  refine wp_region_Y (S := fun W' => Blk W' OB 58 #[.pointer (some ⟨O, 0, none⟩)]) 7 8 rfl (by kernel_rfl) hOB2 (fun hS => ?_)
  refine wpAnyY_take (i := 0) (v := ?_) rfl (by kernel_rfl) (by kernel_rfl) (by kernel_rfl) (by kernel_rfl) (fun _ _ _ h => h) (Or.inl ⟨by kernel_rfl, ?_⟩) (by assumption) ?_
  rotate_left
  · intro w' hSw; have := hSw.cell 0; go_simp; with_reducible rfl
  try simp only [Act.put, List.setIfInBounds_toArray, List.set_cons_zero, List.set_cons_succ]
  refine wpAnyY_take (i := 1) (v := ?_) rfl (by kernel_rfl) (by kernel_rfl) (by kernel_rfl) (by kernel_rfl) (fun _ _ _ h => h) (Or.inl ⟨by kernel_rfl, ?_⟩) (by assumption) ?_
  rotate_left
  · intro w' hSw; have := hSw.cell 0; go_simp; with_reducible rfl
  try simp only [Act.put, List.setIfInBounds_toArray, List.set_cons_zero, List.set_cons_succ]
  refine wpAnyY_take (i := 3) (v := ?_) rfl (by kernel_rfl) (by kernel_rfl) (by kernel_rfl) (by kernel_rfl) (fun _ _ _ h => h) (Or.inl ⟨by kernel_rfl, ?_⟩) (by assumption) ?_
  rotate_left
  · intro w' hSw; have := hSw.cell 0; go_simp; with_reducible rfl
  try simp only [Act.put, List.setIfInBounds_toArray, List.set_cons_zero, List.set_cons_succ]
  refine wpAnyY_take (i := 4) (v := ?_) rfl (by kernel_rfl) (by kernel_rfl) (by kernel_rfl) (by kernel_rfl) (fun _ _ _ h => h) (Or.inl ⟨by kernel_rfl, ?_⟩) (by assumption) ?_
  rotate_left
  · intro w' hSw; have := hSw.cell 0; go_simp; with_reducible rfl
  try simp only [Act.put, List.setIfInBounds_toArray, List.set_cons_zero, List.set_cons_succ]
  refine wpAnyY_take (i := 6) (v := ?_) rfl (by kernel_rfl) (by kernel_rfl) (by kernel_rfl) (by kernel_rfl) (fun _ _ _ h => h) (Or.inl ⟨by kernel_rfl, ?_⟩) (by assumption) ?_
  rotate_left
  · intro w' hSw; have := hSw.cell 0; go_simp; with_reducible rfl
  try simp only [Act.put, List.setIfInBounds_toArray, List.set_cons_zero, List.set_cons_succ]
  refine wpAnyY_oneSW (i := 2) (by kernel_rfl) rfl (by kernel_rfl) (fun K2 hK2 => ?_)
  go_simp
  refine HComp.out.mono ?_
  rintro e w2 ⟨gc, q, vs, rfl, hgc, hget, rfl⟩
  have hk2 := HKt.out q vs
  generalize (w'.drew.drewN q).setCells g' 0 vs = w2 at *
  have hO2 := hk2.blk hO (.inr (by unfold T2; decide))
  have hS2 : ∀ j, j < lofts → SpotsAt w2 (slv j) (rows j) := fun j hj => (hSp j hj).of (fun g cur hb => hk2.blk hb (.inr (by unfold T2; decide)))
  have hB2 : Blk w2 OB 58 #[.pointer (some ⟨O, 0, none⟩)] := hk2.blk hOB (.inr (by unfold T2; decide))
  refine hK2.out _ _ hB2 (fun _ => ?_)
  try simp only [Act.put, List.setIfInBounds_toArray, List.set_cons_zero, List.set_cons_succ]
  refine wpAnyY_oneSW (i := 5) (by kernel_rfl) rfl (by kernel_rfl) (fun K5 hK5 => ?_)
  go_simp
  refine (spare_any w2 ⟨slv, hO2, hS2⟩ hw hf).mono ?_
  rintro e w3 ⟨rfl, hG3⟩
  refine hK5.out _ _ (hB2.keep hG3) (fun _ => ?_)
  try simp only [Act.put, List.setIfInBounds_toArray, List.set_cons_zero, List.set_cons_succ]
  refine wpAnyY_oneW (i := 7) (by kernel_rfl) rfl (by kernel_rfl) (by kernel_rfl) (fun K7 hK7 => ?_)
  go_simp
  have hk3 : Kt T2 W.heap.size W w3 := hk2.t (G.kt hG3)
  have hE3 : Env O g' gc (oc north cols E lofts S wrong fs slv) lofts slv rows w3 := ⟨hO2.keep hG3, fun j hj => (hS2 j hj).of (fun g cur hb => hb.keep hG3), hgc.keep hG3⟩
  have hJm : StableT (· = 65) W.heap.size (fun p W1 => ∃ p' : List { f : At // f ∈ truthsOf rows ls (wrong - fs) }, p'.map (·.1) = p ∧ J p' W1) := fun p X Y ⟨p', hp, hj⟩ hk => ⟨p', hp, hJ _ _ _ hj (hk.imp (fun t ht => .inl ht))⟩
  have hset := settle_any l R O g' gc north wrong cols lofts E S fs slv rows W.heap.size (truthsOf rows ls (wrong - fs))
    (fun p W1 => ∃ p' : List { f : At // f ∈ truthsOf rows ls (wrong - fs) }, p'.map (·.1) = p ∧ J p' W1) (fun p W1 => ∃ p' : List { f : At // f ∈ truthsOf rows ls (wrong - fs) }, p'.map (·.1) = p ∧ Jx p' W1)
    hlo hrl hR1 hR2 hR3 (hRg g' (Nat.le_trans hW.size hgW)) hJm (fun m pre x W1 ⟨p', hp, hj⟩ hpre => by
      have hx : x ∈ truthsOf rows ls (wrong - fs) := hpre.subset (by simp)
      have hlen := hpre.length_le
      subst hp
      obtain ⟨fn, tmps, assign, body, hy, hR⟩ := yieldAt_wide m (hY p' ⟨x, hx⟩ W1 hj (by simp at hlen; omega))
      refine ⟨fn, tmps, assign, body, hy, hR.mono ?_⟩
      rintro e W' (⟨he, hj', hk⟩ | ⟨he, hj'⟩)
      · exact .inl ⟨he, ⟨_, by simp, hj'⟩, hk⟩
      · exact .inr ⟨he, ⟨_, by simp, hj'⟩⟩)
    (namesOf ls) (Nat.le_trans (namesOf_len ls) hl2) 0 cap' (fun _ => (0, 0)) (wrong - fs) [] w3 (fun x hx => hll x (namesOf_mem hx)) (fun k hk => by
      have hk' : k < (Lib.compact (sortL (ls.map fun n : Nat => (n : Int)))).length := by simpa [namesOf] using hk
      rw [hget k hk', namesOf_get ls k hk']) (Nat.le_trans (namesOf_len ls) hcap) (by omega) hk3.size hE3 ⟨[], rfl, hJ _ _ _ h0 hk3⟩ (List.prefix_refl _)
  have hnl : (namesOf ls).length = (Lib.compact (sortL (ls.map fun n : Nat => (n : Int)))).length := by unfold namesOf; rw [List.length_map]
  rw [hnl] at hset
  have HSet := Lib.hid hset
  clear hset hY hJm hE3 hk3 hJ hJx h0
  refine HSet.out.mono ?_
  rintro e w4 (⟨rfl, ⟨p', hp, hj⟩, _⟩ | ⟨rfl, q', hq', p', hp, hj⟩)
  · refine hK7.out _ _ ?_
    try simp only [Act.put, List.setIfInBounds_toArray, List.set_cons_zero, List.set_cons_succ]
    refine wpAnyY_done (by kernel_rfl) ?_ _
    go_wp2
    go_end0
    exact ⟨⟨_, rfl⟩, .inl ⟨p', hp, hj⟩⟩
  · refine hK7.out _ _ ?_
    try simp only [Act.put, List.setIfInBounds_toArray, List.set_cons_zero, List.set_cons_succ]
    refine wpAnyY_done (by kernel_rfl) ?_ _
    go_wp2
    go_end0
    exact ⟨⟨_, rfl⟩, .inr ⟨p', (show p'.map (·.1) <+: truthsOf rows ls (wrong - fs) by rw [hp]; exact hq'), hj⟩⟩
end Go.Proofs.Ytdneehbhncekaaa
set_option linter.unusedSimpArgs false
set_option linter.unusedVariables false
namespace Go.Proofs.Ytdneehbhncekaaa
open Go.RowKit Go.Shelf

theorem compact_mem' {zs : List Int} {x : Int} (h : x ∈ zs) : x ∈ Lib.compact zs := by
  obtain ⟨j, hj, rfl⟩ := List.mem_iff_getElem.1 h
  have key : ∀ k, k < zs.length → zs.toArray[k]! ∈ Lib.compact zs := by
    intro k
    induction k with
    | zero =>
      intro hk
      exact List.mem_map.2 ⟨0, List.mem_filter.2 ⟨by simpa using hk, Lib.keeps_lt_one _ 0 (by omega)⟩, rfl⟩
    | succ k ih =>
      intro hk
      by_cases he : zs.toArray[k + 1]! = zs.toArray[k]!
      · rw [he]; exact ih (by omega)
      · exact List.mem_map.2 ⟨k + 1, List.mem_filter.2 ⟨by simpa using hk, Lib.keeps_pos (by simpa using he)⟩, rfl⟩
  have := key j hj
  simpa [hj] using this
theorem namesOf_mem' {ls : List Nat} {x : Nat} (h : x ∈ ls) : x ∈ namesOf ls := by
  refine List.mem_map.2 ⟨(x : Int), compact_mem' ?_, by simp⟩
  unfold sortL
  rw [List.mem_mergeSort]
  exact List.mem_map.2 ⟨x, h, rfl⟩

/-- in a truth each named loft has one of its spots, and what is not named stays -/
theorem settleL_spec (rows : Nat → List Sp) : ∀ (ls : List Nat) (f0 : At) (sp : Int) (f : At), f ∈ settleL rows ls f0 sp → ∀ l, (l ∈ ls → ∃ s ∈ rows l, f l = (s.x, s.y)) ∧ (l ∉ ls → f l = f0 l)
  | [], f0, sp, f, h, l => by
    simp [settleL] at h
    subst h
    exact ⟨fun h => by simp at h, fun _ => rfl⟩
  | k :: ls, f0, sp, f, h, l => by
    rw [settleL_cons] at h
    obtain ⟨s, hs, hf⟩ := List.mem_flatMap.1 h
    unfold stepL at hf
    split at hf
    · obtain ⟨h1, h2⟩ := settleL_spec rows ls _ _ f hf l
      by_cases hl : l ∈ ls
      · exact ⟨fun _ => h1 hl, fun hn => absurd (List.mem_cons_of_mem _ hl) hn⟩
      · have h3 := h2 hl
        by_cases hk : l = k
        · subst hk
          refine ⟨fun _ => ⟨s, hs, by rw [h3]; simp [upd]⟩, fun hn => absurd List.mem_cons_self hn⟩
        · refine ⟨fun h => ?_, fun _ => by rw [h3]; simp [upd, hk]⟩
          rcases List.mem_cons.1 h with h | h
          · exact absurd h hk
          · exact absurd h hl
    · simp at hf

/-- the square of twice the distance of two lofts -/
def q2 (north : Int) (east : List Int) (a b : Nat) (f : At) : Int := sqI north east (f a).1 (f a).2 (f b).1 (f b).2
def loQ (north : Int) (east : List Int) (a b : Nat) (L : List At) : Int := L.foldl (fun m f => min m (q2 north east a b f)) 9223372036854775807
def hiQ (north : Int) (east : List Int) (a b : Nat) (L : List At) : Int := L.foldl (fun m f => max m (q2 north east a b f)) 0
theorem loQ_snoc (north : Int) (east : List Int) (a b : Nat) (L : List At) (f : At) : loQ north east a b (L ++ [f]) = min (loQ north east a b L) (q2 north east a b f) := by simp [loQ]
theorem hiQ_snoc (north : Int) (east : List Int) (a b : Nat) (L : List At) (f : At) : hiQ north east a b (L ++ [f]) = max (hiQ north east a b L) (q2 north east a b f) := by simp [hiQ]
theorem loQ_bd {north : Int} {east : List Int} {a b : Nat} {B : Int} : ∀ (L : List At) (m : Int), (∀ f ∈ L, 0 ≤ q2 north east a b f ∧ q2 north east a b f ≤ B) → 0 ≤ m →
    0 ≤ L.foldl (fun m f => min m (q2 north east a b f)) m ∧ (m ≤ B ∨ L ≠ [] → L.foldl (fun m f => min m (q2 north east a b f)) m ≤ B)
  | [], m, _, hm => ⟨hm, fun h => h.elim id (fun h => absurd rfl h)⟩
  | f :: L, m, h, hm => by
    have h1 := h f List.mem_cons_self
    obtain ⟨h2, h3⟩ := loQ_bd L (min m (q2 north east a b f)) (fun g hg => h g (List.mem_cons_of_mem _ hg)) (by omega)
    exact ⟨h2, fun _ => h3 (.inl (by omega))⟩
theorem hiQ_bd {north : Int} {east : List Int} {a b : Nat} {B : Int} : ∀ (L : List At) (m : Int), (∀ f ∈ L, 0 ≤ q2 north east a b f ∧ q2 north east a b f ≤ B) → 0 ≤ m → m ≤ B →
    0 ≤ L.foldl (fun m f => max m (q2 north east a b f)) m ∧ L.foldl (fun m f => max m (q2 north east a b f)) m ≤ B
  | [], m, _, hm, hB => ⟨hm, hB⟩
  | f :: L, m, h, hm, hB => by
    have h1 := h f List.mem_cons_self
    exact hiQ_bd L (max m (q2 north east a b f)) (fun g hg => h g (List.mem_cons_of_mem _ hg)) (by omega) (by omega)

/-- what a truth says of two named lofts -/
theorem truths_good {rows : Nat → List Sp} {a b : Nat} {sp : Int} {cols er : Nat} (hr : ∀ l, l = a ∨ l = b → ∀ s ∈ rows l, s.x < cols ∧ s.y < er) {f : At} (h : f ∈ truthsOf rows [a, b] sp) : ((f a).1 < cols ∧ (f a).2 < er) ∧ ((f b).1 < cols ∧ (f b).2 < er) := by
  have key : ∀ l, l = a ∨ l = b → (f l).1 < cols ∧ (f l).2 < er := fun l hl => by
    obtain ⟨s, hs, he⟩ := (settleL_spec rows _ _ _ f h l).1 (namesOf_mem' (by rcases hl with rfl | rfl <;> simp))
    have := hr l hl s hs
    rw [he]
    exact this
  exact ⟨key a (.inl rfl), key b (.inr rfl)⟩

theorem Fr.kt {R : Nat → Prop} {T : TypeId → Prop} {A X Y : World} {B : Nat} (h : Fr R A X) (k : Kt T B X Y) (hB : A.heap.size ≤ B) : Fr R A Y :=
  ⟨k.os.trans h.os, k.tape.trans h.tape, k.output.trans h.output, Nat.le_trans h.size k.size, fun i hi hn => by
    have hx := h.block i hi hn
    have hlt : i < X.heap.size := Nat.lt_of_lt_of_le hi h.size
    have e : X.heap[i]? = some X.heap[i] := Array.getElem?_eq_getElem hlt
    exact (k.block i _ e (.inl (Nat.lt_of_lt_of_le hi hB))).trans (e.symm.trans hx)⟩
theorem KC.put {R : Nat → TypeId → Prop} (W : World) (l : Nat) (o o' : Obj) (ho : W.heap[l]? = some o) (hc : o.isCells = false) : KC R W (W.putObj l o') :=
  ⟨by simp [World.putObj], fun i c t f hi _ => by
    refine (World.putObj_heap_other (fun e => ?_)).trans hi
    rw [e, ho] at hi
    cases hi
    cases hc⟩

theorem truths_any (O : Nat) (a : Option Addr) (k c : Nat) (w : World) : Calls Try.prog 17 #[.pointer (some ⟨O, 0, none⟩), .slice a k c] w fun e w' =>
    e = .returned (.func (.func 32) #[] #[.pointer (some ⟨w.heap.size + 1, 0, none⟩), .pointer (some ⟨w.heap.size, 0, none⟩)]) ∧ w' = (w.alloc (.cells #[.pointer (some ⟨O, 0, none⟩)] 58)).alloc (.cells #[.slice a k c] 22) := by
  go_enter Try.func17, Try.ntmps17
  go_wp2
  go_ret
  exact ⟨rfl, rfl⟩
end Go.Proofs.Ytdneehbhncekaaa
set_option linter.unusedSimpArgs false
set_option linter.unusedVariables false
namespace Go.Proofs.Ytdneehbhncekaaa
open Go.RowKit Go.Shelf
attribute [local go_sem] Oper.semAt_some wide_fn wide_dep wideR_fn wideR_dep

/-- the blocks of low and high -/
def Rd (n0 : Nat) (i : Nat) (t : TypeId) : Prop := t = 3 ∧ (i = n0 + 4 ∨ i = n0 + 5)
def DistI (n0 : Nat) (W0 : World) (north : Int) (east : List Int) (a b : Nat) (L : List At) (W : World) : Prop :=
  Blk W (n0 + 4) 3 #[.int .i64 (loQ north east a b L)] ∧ Blk W (n0 + 5) 3 #[.int .i64 (hiQ north east a b L)] ∧ Fr (fun i => i = n0 + 4 ∨ i = n0 + 5) W0 W
theorem distI_own (n0 : Nat) (W0 : World) (north : Int) (east : List Int) (a b : Nat) (hz : n0 + 9 ≤ W0.heap.size) (L : List At) {X Y : World} {row : Option Nat} (h : DistI n0 W0 north east a b L X) (hg : X.grownBy Y row) (hr : ∀ g, row = some g → W0.heap.size ≤ g) : DistI n0 W0 north east a b L Y := by
  obtain ⟨h1, h2, h3⟩ := h
  exact ⟨h1.grown hg (fun e => by have := hr _ e.symm; omega), h2.grown hg (fun e => by have := hr _ e.symm; omega), h3.grown hg (fun g e => .inr (hr g e))⟩

theorem Blk.newAt {X : World} {k : Nat} (h : X.heap.size = k) (t : TypeId) (cs : Array Value) : Blk (X.alloc (.cells cs t)) k t cs := h ▸ Blk.new X t cs
theorem w9_spec (w : World) (c0 c1 c2 c3 c4 c5 c6 c7 c8 : Array Value) (t0 t1 t2 t3 t4 t5 t6 t7 t8 : TypeId) (n0 : Nat) (hn0 : n0 = w.heap.size) (W0 : World)
    (h : W0 = (((((((((w.alloc (.cells c0 t0)).alloc (.cells c1 t1)).alloc (.cells c2 t2)).alloc (.cells c3 t3)).alloc (.cells c4 t4)).alloc (.cells c5 t5)).alloc (.cells c6 t6)).alloc (.cells c7 t7)).alloc (.cells c8 t8))) :
    G w W0 ∧ W0.heap.size = n0 + 9 ∧ Blk W0 n0 t0 c0 ∧ Blk W0 (n0 + 1) t1 c1 ∧ Blk W0 (n0 + 2) t2 c2 ∧ Blk W0 (n0 + 3) t3 c3 ∧ Blk W0 (n0 + 4) t4 c4 ∧ Blk W0 (n0 + 5) t5 c5 ∧ Blk W0 (n0 + 6) t6 c6 ∧ Blk W0 (n0 + 7) t7 c7 ∧ Blk W0 (n0 + 8) t8 c8 := by
  subst h
  refine ⟨((((((((((G.rf w).a _).a _).a _).a _).a _).a _).a _).a _).a _), by simp [hn0], ?_, ?_, ?_, ?_, ?_, ?_, ?_, ?_, ?_⟩
  · exact ((((((((Blk.newAt hn0.symm _ _).alloc _).alloc _).alloc _).alloc _).alloc _).alloc _).alloc _).alloc _
  · exact (((((((Blk.newAt (by simp [hn0]) _ _).alloc _).alloc _).alloc _).alloc _).alloc _).alloc _).alloc _
  · exact ((((((Blk.newAt (by simp [hn0]) _ _).alloc _).alloc _).alloc _).alloc _).alloc _).alloc _
  · exact (((((Blk.newAt (by simp [hn0]) _ _).alloc _).alloc _).alloc _).alloc _).alloc _
  · exact ((((Blk.newAt (by simp [hn0]) _ _).alloc _).alloc _).alloc _).alloc _
  · exact (((Blk.newAt (by simp [hn0]) _ _).alloc _).alloc _).alloc _
  · exact ((Blk.newAt (by simp [hn0]) _ _).alloc _).alloc _
  · exact (Blk.newAt (by simp [hn0]) _ _).alloc _
  · exact Blk.newAt (by simp [hn0]) _ _
theorem KC.setR {R : Nat → TypeId → Prop} {A B : World} {g i : Nat} {t : TypeId} {cs : Array Value} (h : KC R A B) (b : Blk B g t cs) (hr : R g t) (v : Value) : KC R A (B.setCell ⟨g, i, none⟩ v) :=
  ⟨by have := h.size; simpa [World.setCell] using this, fun k c t' f hk hn => by
    have h1 := h.block k c t' f hk hn
    refine (Below.heap_setCell B _ v k (fun e => ?_)).trans h1
    have e' : k = g := e
    rw [e', show B.heap[g]? = _ from b] at h1
    cases h1
    exact hn (e' ▸ hr)⟩

theorem res59 (tmps : Array Value) (w : World) (g : Nat) (x y : Int) (h : tmps.getD 8 undef = .pointer (some ⟨g, 0, none⟩)) (c0 : w.cell? ⟨g, 0, none⟩ = some (.int .i64 x)) (c1 : w.cell? ⟨g, 1, none⟩ = some (.int .i64 y)) :
    (results Try.f20 tmps).run Try.prog w = .ok (.agg #[.int .i64 x, .int .i64 y]) w := by
  have hr : Try.f20.results = #[.cell 8 27] := rfl
  have h' : tmps[8]?.getD undef = .pointer (some ⟨g, 0, none⟩) := by simpa using h
  simp only [results, hr]
  go_simp

set_option maxRecDepth 100000 in
set_option maxHeartbeats 4000000 in
theorem distance_in (n : Nat) (hn : 4 ≤ n) (north wrong : Int) (cols lofts a b : Nat) (east : List Int) (svs : List Sv) (ea sa : Option Addr) (ec sc O fs : Nat) (slv : Nat → Value) (rows : Nat → List Sp) (fv : Value) (rule : Int) (w : World)
    (he : IntsAt w ea east) (hv : validMapB north cols east lofts wrong = true) (hf : fs ≤ 128)
    (hO : Blk w O 99 (oc north cols (.slice ea east.length ec) lofts (.slice sa svs.length sc) wrong fs slv)) (hSp : ∀ j, j < lofts → SpotsAt w (slv j) (rows j))
    (hrl : ∀ j, j < lofts → (rows j).length ≤ 100) (hrg : ∀ l, l < lofts → ∀ s ∈ rows l, s.x < cols ∧ s.y < east.length) (ha : a < lofts) (hb : b < lofts) (hR : RoundAt w fv rule) (hne : truthsOf rows [a, b] (wrong - fs) ≠ []) :
    CallsIn Fence.wide n Try.prog 20 #[.pointer (some ⟨O, 0, none⟩), .int .i64 a, .int .i64 b, fv] w fun e w' =>
      e = .returned (.agg #[.int .i64 (rnd rule (loQ north east a b (truthsOf rows [a, b] (wrong - fs))).toNat), .int .i64 (rnd rule (hiQ north east a b (truthsOf rows [a, b] (wrong - fs))).toNat)]) ∧ G w w' := by
  obtain ⟨gf, flb, rfl, feg, hRC⟩ := hR
  have HRC := Lib.hid hRC
  clear hRC
  have hvb := vm_bounds hv
  obtain ⟨n0, hn0⟩ : ∃ n0, n0 = w.heap.size := ⟨_, rfl⟩
  have hal : ((a : Nat) : Int) < 8 := by omega
  have hbl : ((b : Nat) : Int) < 8 := by omega
  refine callsIn_of_wp_marks Try.func20 rfl trivial ?_ rfl
  simp only [Try.ntmps20, List.size_toArray, List.length_cons, List.length_nil, Nat.reduceAdd, Nat.reduceSub, Array.replicate_succ, Array.replicate_zero, List.push_toArray, List.append_toArray, List.nil_append, List.cons_append]
  gi_wp2_with (gi_at_call 17; refine (callsIn_wide.2 (truths_any _ _ _ _ _)).mono ?_; rintro e w' ⟨rfl, rfl⟩)
  simp only [Nat.add_assoc, Nat.reduceAdd]
  rw [← hn0]
  generalize hW0 : (((((((((w.alloc (.cells #[.pointer (some ⟨O, 0, none⟩)] 58)).alloc (.cells #[.int .i64 a] 3)).alloc (.cells #[.int .i64 b] 3)).alloc (.cells #[.int .i64 0, .int .i64 0] 27)).alloc (.cells #[.int .i64 9223372036854775807] 3)).alloc (.cells #[.int .i64 0] 3)).alloc (.cells #[.int .i64 a, .int .i64 b] 3)).alloc (.cells #[.pointer (some ⟨O, 0, none⟩)] 58)).alloc (.cells #[.slice (some ⟨n0 + 6, 0, none⟩) 2 2] 22)) = W0
  obtain ⟨g0, z0, b0, b1, b2, b3, b4, b5, b6, b7, b8⟩ := w9_spec w _ _ _ _ _ _ _ _ _ _ _ _ _ _ _ _ _ _ n0 hn0 W0 hW0.symm
  clear hW0
  have hGof : ∀ W, Fr (fun i => i = n0 + 4 ∨ i = n0 + 5) W0 W → G w W := fun W hfr => ((G.fr g0).t hfr).toG (fun i hi h => by omega)
  have HN0 := Lib.hid hn0
  clear hn0
  have hseq := truths_seq (n - 1) (Rd n0) O (n0 + 7) (n0 + 8) (n0 + 6) 0 2 [a, b] north wrong cols lofts (.slice ea east.length ec) (.slice sa svs.length sc) fs slv rows W0 (by omega) hrl
    (fun i h => absurd h.1 (by decide)) (fun i h => absurd h.1 (by decide)) (fun i h => absurd h.1 (by decide)) (fun i hi h => by have := h.2; omega) (by omega) hf (by simp) (by simp) (by simp [ha, hb])
    ⟨⟨hO.keep g0, fun j hj => (hSp j hj).of (fun g cur hb => hb.keep g0)⟩, b7, b8, by omega, by
      intro k hk
      have hk2 : k < 2 := by simpa using hk
      rw [b6.cell]
      match k, hk2 with
      | 0, _ => rfl
      | 1, _ => rfl⟩
  have hgood : ∀ f ∈ truthsOf rows [a, b] (wrong - fs), ((f a).1 < cols ∧ (f a).2 < east.length) ∧ ((f b).1 < cols ∧ (f b).2 < east.length) := fun f hf => truths_good (fun l hl => hrg l (by rcases hl with rfl | rfl <;> assumption)) hf
  generalize hL : truthsOf rows [a, b] (wrong - fs) = L at *
  have HL := Lib.hid hL
  clear hL
  refine rangeFunc_T (F := Fence.wide) (α := { f : At // f ∈ L }) (T := T2) (gf := 32) (lb := #[.pointer (some ⟨n0 + 8, 0, none⟩), .pointer (some ⟨n0 + 7, 0, none⟩)]) rfl (by omega) rfl trivial (enters_of Try.func32 (by kernel_rfl) rfl)
    (ev := fun x => .agg (pc x.1)) (Kp := KC (Rd n0)) hseq (Below.refl _ _) (fun h k => KC.t h k) (fun W l o o' _ h1 h2 => KC.put W l o o' h1 h2) (fun W o => G.kc ((G.rf W).a o))
    (fun pre W => DistI n0 W0 north east a b (pre.map (·.1)) W) (fun _ _ _ => False) ?hI (fun _ _ _ _ _ h _ _ => h) ?hIT (fun _ _ _ _ _ _ h _ => h) ?h0 11 65 (fun x => pc x.1) ?assign ?body ?done ?stop
  case hI => exact fun s X Y row h hg hr => distI_own n0 W0 north east a b (by omega) _ h hg (fun g e => (hr g e).1)
  case hIT =>
    rintro B hB s X Y ⟨h1, h2, h3⟩ hk
    exact ⟨hk.blk h1 (.inl (by omega)), hk.blk h2 (.inl (by omega)), h3.kt hk hB⟩
  case h0 => exact ⟨b4, b5, Fr.rf _ _⟩
  case assign =>
    intro l x W K hK
    unfold pc at hK ⊢
    gi_wp2
    exact hK
  case body =>
    rintro l pre x Bp W ⟨i1, i2, hfr⟩ hBp bP hN
    have hG0 : G w W := hGof W hfr
    obtain ⟨⟨ga1, ga2⟩, ⟨gb1, gb2⟩⟩ := hgood x.1 x.2
    have hSQ := fun (W' : World) (hW' : G W W') => square_any north cols lofts wrong ((x.1 a).1 : Int) ((x.1 b).1 : Int) (x.1 a).2 (x.1 b).2 east ea ec (.slice sa svs.length sc) W' (he.below (hG0.t hW')) hv ga2 gb2 (by simp [isInB]; omega) (by simp [isInB]; omega)
    have hsn1 := loQ_snoc north east a b (pre.map (·.1)) x.1
    have hsn2 := hiQ_snoc north east a b (pre.map (·.1)) x.1
    have hq2 : sqI north east ((x.1 a).1 : Int) ((x.1 a).2 : Int) ((x.1 b).1 : Int) ((x.1 b).2 : Int) = q2 north east a b x.1 := rfl
    simp only [hq2] at hSQ
    generalize q2 north east a b x.1 = q at hsn1 hsn2 hSQ
    have HSQ := Lib.hid hSQ
    have HS1 := Lib.hid hsn1
    have HS2 := Lib.hid hsn2
    clear hSQ hsn1 hsn2 hq2 hgood hseq hne HRC hrl hrg hSp
    have e0 := hfr.blk b0 (by omega)
    have e1 := hfr.blk b1 (by omega)
    have e2 := hfr.blk b2 (by omega)
    have eO := hO.keep hG0
    obtain ⟨pa1, pa2⟩ := pc_get x.1 (l := a) (by omega)
    obtain ⟨pb1, pb2⟩ := pc_get x.1 (l := b) (by omega)
    clear b0 b1 b2 b3 b4 b5 b6 b7 b8 hO he hvb
    gi_wp2
    refine wpIn_region_Y (l := some l) (S := G W) 10 12 rfl (by kernel_rfl) (fun ⟨_, _, h⟩ => h) (by kernel_rfl) (G.rf W).d (fun hS => ?_)
    have fO : ∀ W', G W W' → W'.cell? ⟨n0, 0, none⟩ = some (.pointer (some ⟨O, 0, none⟩)) := fun W' h => (e0.keep h).cell 0
    have fa : ∀ W', G W W' → W'.cell? ⟨n0 + 1, 0, none⟩ = some (.int .i64 a) := fun W' h => (e1.keep h).cell 0
    have fb : ∀ W', G W W' → W'.cell? ⟨n0 + 2, 0, none⟩ = some (.int .i64 b) := fun W' h => (e2.keep h).cell 0
    have fM0 : ∀ W', G W W' → W'.cell? ⟨O, 0, none⟩ = some (.int .i64 north) := fun W' h => (eO.keep h).cell 0
    have fM1 : ∀ W', G W W' → W'.cell? ⟨O, 1, none⟩ = some (.int .i64 cols) := fun W' h => (eO.keep h).cell 1
    have fM2 : ∀ W', G W W' → W'.cell? ⟨O, 2, none⟩ = some (.slice ea east.length ec) := fun W' h => (eO.keep h).cell 2
    have fM3 : ∀ W', G W W' → W'.cell? ⟨O, 3, none⟩ = some (.int .i64 lofts) := fun W' h => (eO.keep h).cell 3
    have fM4 : ∀ W', G W W' → W'.cell? ⟨O, 4, none⟩ = some (.slice sa svs.length sc) := fun W' h => (eO.keep h).cell 4
    have fM5 : ∀ W', G W W' → W'.cell? ⟨O, 5, none⟩ = some (.int .i64 wrong) := fun W' h => (eO.keep h).cell 5
    have fP1 : ∀ W', G W W' → W'.cell? ⟨Bp, a * 2, none⟩ = some (.int .i64 (x.1 a).1) := fun W' h => ((bP.keep h).cell _).trans pa1
    have fP2 : ∀ W', G W W' → W'.cell? ⟨Bp, a * 2 + 1, none⟩ = some (.int .i64 (x.1 a).2) := fun W' h => ((bP.keep h).cell _).trans pa2
    have fP3 : ∀ W', G W W' → W'.cell? ⟨Bp, b * 2, none⟩ = some (.int .i64 (x.1 b).1) := fun W' h => ((bP.keep h).cell _).trans pb1
    have fP4 : ∀ W', G W W' → W'.cell? ⟨Bp, b * 2 + 1, none⟩ = some (.int .i64 (x.1 b).2) := fun W' h => ((bP.keep h).cell _).trans pb2
    clear pa1 pa2 pb1 pb2 e0 e1 e2 eO
    have HX : Hid (∃ f, x.1 = f) := ⟨_, rfl⟩
    generalize hxf : x.1 = f at ga1 ga2 gb1 gb2 bP HS1 HS2 HSQ fP1 fP2 fP3 fP4 ⊢
    replace HX := Lib.hid hxf
    clear hxf
    refine wpAnyY_take (i := 0) (v := ?_) rfl (by kernel_rfl) (by kernel_rfl) (by kernel_rfl) (by kernel_rfl) (fun _ _ _ h => h) (Or.inl ⟨by kernel_rfl, ?_⟩) (by assumption) ?_
    rotate_left
    · intro w' hSw; go_simp; with_reducible rfl
    try simp only [Act.put, List.setIfInBounds_toArray, List.set_cons_zero, List.set_cons_succ]
    refine wpAnyY_take (i := 1) (v := ?_) rfl (by kernel_rfl) (by kernel_rfl) (by kernel_rfl) (by kernel_rfl) (fun _ _ _ h => h) (Or.inl ⟨by kernel_rfl, ?_⟩) (by assumption) ?_
    rotate_left
    · intro w' hSw; go_simp; with_reducible rfl
    try simp only [Act.put, List.setIfInBounds_toArray, List.set_cons_zero, List.set_cons_succ]
    refine wpAnyY_take (i := 2) (v := ?_) rfl (by kernel_rfl) (by kernel_rfl) (by kernel_rfl) (by kernel_rfl) (fun _ _ _ h => h) (Or.inl ⟨by kernel_rfl, ?_⟩) (by assumption) ?_
    rotate_left
    · intro w' hSw; go_simp; with_reducible rfl
    try simp only [Act.put, List.setIfInBounds_toArray, List.set_cons_zero, List.set_cons_succ]
    refine wpAnyY_take (i := 3) (v := ?_) rfl (by kernel_rfl) (by kernel_rfl) (by kernel_rfl) (by kernel_rfl) (fun _ _ _ h => h) (Or.inl ⟨by kernel_rfl, ?_⟩) (by assumption) ?_
    rotate_left
    · intro w' hSw; go_simp; with_reducible rfl
    try simp only [Act.put, List.setIfInBounds_toArray, List.set_cons_zero, List.set_cons_succ]
    refine wpAnyY_take (i := 4) (v := ?_) rfl (by kernel_rfl) (by kernel_rfl) (by kernel_rfl) (by kernel_rfl) (fun _ _ _ h => h) (Or.inl ⟨by kernel_rfl, ?_⟩) (by assumption) ?_
    rotate_left
    · intro w' hSw; go_simp; with_reducible rfl
    try simp only [Act.put, List.setIfInBounds_toArray, List.set_cons_zero, List.set_cons_succ]
    refine wpAnyY_take (i := 5) (v := ?_) rfl (by kernel_rfl) (by kernel_rfl) (by kernel_rfl) (by kernel_rfl) (fun _ _ _ h => h) (Or.inl ⟨by kernel_rfl, ?_⟩) (by assumption) ?_
    rotate_left
    · intro w' hSw; go_simp; with_reducible rfl
    try simp only [Act.put, List.setIfInBounds_toArray, List.set_cons_zero, List.set_cons_succ]
    refine wpAnyY_take (i := 6) (v := ?_) rfl (by kernel_rfl) (by kernel_rfl) (by kernel_rfl) (by kernel_rfl) (fun _ _ _ h => h) (Or.inl ⟨by kernel_rfl, ?_⟩) (by assumption) ?_
    rotate_left
    · intro w' hSw; go_simp; with_reducible rfl
    try simp only [Act.put, List.setIfInBounds_toArray, List.set_cons_zero, List.set_cons_succ]
    refine wpAnyY_take (i := 7) (v := ?_) rfl (by kernel_rfl) (by kernel_rfl) (by kernel_rfl) (by kernel_rfl) (fun _ _ _ h => h) (Or.inl ⟨by kernel_rfl, ?_⟩) (by assumption) ?_
    rotate_left
    · intro w' hSw; go_simp; with_reducible rfl
    try simp only [Act.put, List.setIfInBounds_toArray, List.set_cons_zero, List.set_cons_succ]
    refine wpAnyY_take (i := 8) (v := ?_) rfl (by kernel_rfl) (by kernel_rfl) (by kernel_rfl) (by kernel_rfl) (fun _ _ _ h => h) (Or.inl ⟨by kernel_rfl, ?_⟩) (by assumption) ?_
    rotate_left
    · intro w' hSw; go_simp; with_reducible rfl
    try simp only [Act.put, List.setIfInBounds_toArray, List.set_cons_zero, List.set_cons_succ]
    refine wpAnyY_take (i := 9) (v := ?_) rfl (by kernel_rfl) (by kernel_rfl) (by kernel_rfl) (by kernel_rfl) (fun _ _ _ h => h) (Or.inl ⟨by kernel_rfl, ?_⟩) (by assumption) ?_
    rotate_left
    · intro w' hSw; go_simp; with_reducible rfl
    try simp only [Act.put, List.setIfInBounds_toArray, List.set_cons_zero, List.set_cons_succ]
    refine wpAnyY_oneW (i := 10) (by kernel_rfl) rfl (by kernel_rfl) (by kernel_rfl) (fun K10 hK10 => ?_)
    go_simp
    refine (HSQ.out _ (G.rf W).d).mono ?_
    rintro e w2 ⟨rfl, hG2⟩
    have hGx : G W w2 := (G.rf W).d.t hG2
    clear fO fa fb fM0 fM1 fM2 fM3 fM4 fM5 fP1 fP2 fP3 fP4 hS hG2
    refine hK10.out _ _ ?_
    try simp only [Act.put, List.setIfInBounds_toArray, List.set_cons_zero, List.set_cons_succ]
    refine wpAnyY_oneW (i := 11) (by kernel_rfl) rfl (by kernel_rfl) (by kernel_rfl) (fun K11 hK11 => ?_)
    go_simp
    refine hK11.out _ _ ?_
    try simp only [Act.put, List.setIfInBounds_toArray, List.set_cons_zero, List.set_cons_succ]
    refine wpAnyY_done (by kernel_rfl) ?_ _
    have j1 := i1.keep hGx
    have j2 := i2.keep hGx
    generalize loQ north east a b (pre.map (·.1)) = lo at *
    generalize hiQ north east a b (pre.map (·.1)) = hi at *
    gi_wp2
    refine wpIn_region_Y (l := some l) (S := fun W' => Blk W' (n0 + 5) 3 #[.int .i64 hi]) 7 8 rfl (by kernel_rfl) (fun ⟨_, _, h⟩ => h) (by kernel_rfl) (j2.keep (G.rf w2).d) (fun hS => ?_)
    refine wpAnyY_take (i := 1) (v := ?_) rfl (by kernel_rfl) (by kernel_rfl) (by kernel_rfl) (by kernel_rfl) (fun _ _ _ h => h) (Or.inl ⟨by kernel_rfl, ?_⟩) (by assumption) ?_
    rotate_left
    · intro w' hSw; have := hSw.cell 0; go_simp; with_reducible rfl
    try simp only [Act.put, List.setIfInBounds_toArray, List.set_cons_zero, List.set_cons_succ]
    refine wpAnyY_take (i := 3) (v := ?_) rfl (by kernel_rfl) (by kernel_rfl) (by kernel_rfl) (by kernel_rfl) (fun _ _ _ h => h) (Or.inl ⟨by kernel_rfl, ?_⟩) (by assumption) ?_
    rotate_left
    · intro w' hSw; have := hSw.cell 0; go_simp; with_reducible rfl
    try simp only [Act.put, List.setIfInBounds_toArray, List.set_cons_zero, List.set_cons_succ]
    refine wpAnyY_take (i := 4) (v := ?_) rfl (by kernel_rfl) (by kernel_rfl) (by kernel_rfl) (by kernel_rfl) (fun _ _ _ h => h) (Or.inl ⟨by kernel_rfl, ?_⟩) (by assumption) ?_
    rotate_left
    · intro w' hSw; have := hSw.cell 0; go_simp; with_reducible rfl
    try simp only [Act.put, List.setIfInBounds_toArray, List.set_cons_zero, List.set_cons_succ]
    refine wpAnyY_take (i := 5) (v := ?_) rfl (by kernel_rfl) (by kernel_rfl) (by kernel_rfl) (by kernel_rfl) (fun _ _ _ h => h) (Or.inl ⟨by kernel_rfl, ?_⟩) (by assumption) ?_
    rotate_left
    · intro w' hSw; have := hSw.cell 0; go_simp; with_reducible rfl
    try simp only [Act.put, List.setIfInBounds_toArray, List.set_cons_zero, List.set_cons_succ]
    have c1 : w2.cell? ⟨n0 + 4, 0, none⟩ = some (.int .i64 lo) := j1.cell 0
    have z1 := j1.frozen 0
    have z2 := j2.frozen 0
    have l1 := j1.lt
    have l2 := j2.lt
    refine wpAnyY_oneSW (i := 0) (by kernel_rfl) rfl (by kernel_rfl) (fun K0 hK0 => ?_)
    go_simp
    refine hK0.out _ _ hS (fun _ => ?_)
    try simp only [Act.put, List.setIfInBounds_toArray, List.set_cons_zero, List.set_cons_succ]
    refine wpAnyY_oneSW (i := 2) (by kernel_rfl) rfl (by kernel_rfl) (fun K2 hK2 => ?_)
    go_simp
    refine hK2.out _ _ hS (fun _ => ?_)
    try simp only [Act.put, List.setIfInBounds_toArray, List.set_cons_zero, List.set_cons_succ]
    refine wpAnyY_oneSW (i := 6) (by kernel_rfl) rfl (by kernel_rfl) (fun K6 hK6 => ?_)
    go_simp
    have k1 := j1.set_ 0 (.int .i64 (min lo q))
    have k2 : Blk (w2.setCell ⟨n0 + 4, 0, none⟩ (.int .i64 (min lo q))) (n0 + 5) 3 #[.int .i64 hi] := j2.far (by simp) _
    have r1 : Fr (fun i => i = n0 + 4 ∨ i = n0 + 5) W (w2.setCell ⟨n0 + 4, 0, none⟩ (.int .i64 (min lo q))) := (G.fr hGx).s (.inl (.inl rfl)) _
    have q1 : KC (Rd n0) W (w2.setCell ⟨n0 + 4, 0, none⟩ (.int .i64 (min lo q))) := (G.kc hGx).setR j1 ⟨rfl, .inl rfl⟩ _
    generalize w2.setCell ⟨n0 + 4, 0, none⟩ (.int .i64 (min lo q)) = w3 at *
    refine hK6.out _ _ (k2.keep (G.rf w3).d) (fun _ => ?_)
    try simp only [Act.put, List.setIfInBounds_toArray, List.set_cons_zero, List.set_cons_succ]
    have z3 := k2.frozen 0
    have c3 : w3.cell? ⟨n0 + 5, 0, none⟩ = some (.int .i64 hi) := k2.cell 0
    have l3 := k2.lt
    refine wpAnyY_oneW (i := 7) (by kernel_rfl) rfl (by kernel_rfl) (by kernel_rfl) (fun K7 hK7 => ?_)
    go_simp
    have m1 : Blk (w3.setCell ⟨n0 + 5, 0, none⟩ (.int .i64 (max hi q))) (n0 + 4) 3 #[.int .i64 (min lo q)] := k1.far (by simp) _
    have m2 := k2.set_ 0 (.int .i64 (max hi q))
    have r2 : Fr (fun i => i = n0 + 4 ∨ i = n0 + 5) W (w3.setCell ⟨n0 + 5, 0, none⟩ (.int .i64 (max hi q))) := r1.s (.inl (.inr rfl)) _
    have q2' : KC (Rd n0) W (w3.setCell ⟨n0 + 5, 0, none⟩ (.int .i64 (max hi q))) := q1.setR k2 ⟨rfl, .inr rfl⟩ _
    generalize w3.setCell ⟨n0 + 5, 0, none⟩ (.int .i64 (max hi q)) = w4 at *
    refine hK7.out _ _ ?_
    refine wpAnyY_done (by kernel_rfl) ?_ _
    have hfin : KeepsFrom W0.heap.size W w4.drew ∧ KC (Rd n0) W w4.drew ∧ DistI n0 W0 north east a b ((pre ++ [x]).map (·.1)) w4.drew := by
      refine ⟨r2.d.keeps (fun i hi _ => ?_) _, q2'.t (G.kc (G.rf w4).d), ?_, ?_, hfr.t r2.d⟩
      · rcases hi with rfl | rfl
        · exact ⟨_, _, _, i1⟩
        · exact ⟨_, _, _, i2⟩
      · rw [List.map_append, List.map_singleton, HX.out, HS1.out]
        exact m1.keep (G.rf w4).d
      · rw [List.map_append, List.map_singleton, HX.out, HS2.out]
        exact m2.keep (G.rf w4).d
    gi_wp2
    exact hfin
  case done =>
    rintro D xs W hD hxs ⟨i1, i2, hfr⟩ hDef
    have hxs : xs.map (·.1) = L := hxs
    rw [hxs] at i1 i2
    have hG0 : G w W := hGof W hfr
    have hqb : ∀ f ∈ L, 0 ≤ q2 north east a b f ∧ q2 north east a b f ≤ 2592000000000000 := fun f hf => by
      obtain ⟨⟨ga1, ga2⟩, ⟨gb1, gb2⟩⟩ := hgood f hf
      exact sq_bd hv ga2 gb2 (by simp [isInB]; omega) (by simp [isInB]; omega)
    have lb := loQ_bd L 9223372036854775807 hqb (by omega)
    have hb2 := hiQ_bd L 0 hqb (by omega) (by omega)
    have lb2 := lb.2 (.inr hne)
    replace lb := lb.1
    rw [show L.foldl (fun m f => min m (q2 north east a b f)) 9223372036854775807 = loQ north east a b L from rfl] at lb lb2
    rw [show L.foldl (fun m f => max m (q2 north east a b f)) 0 = hiQ north east a b L from rfl] at hb2
    have e3 := hfr.blk b3 (by omega)
    generalize hlo1 : loQ north east a b L = lo at *
    generalize hhi1 : hiQ north east a b L = hi at *
    have HLo := Lib.hid hlo1
    have HHi := Lib.hid hhi1
    clear hlo1 hhi1
    clear b0 b1 b2 b3 b4 b5 b6 b7 b8 hgood hqb hseq hne hO he hvb hrl hrg hSp hGof
    gi_wp2
    refine wpIn_region_Y (l := none) (S := fun W' => Blk W' (n0 + 4) 3 #[.int .i64 lo] ∧ Blk W' (n0 + 5) 3 #[.int .i64 hi]) 7 8 rfl (by kernel_rfl) (fun ⟨_, _, h⟩ => by rcases h with h | h <;> cases h.1) (by kernel_rfl) ⟨i1.keep (G.rf W).d, i2.keep (G.rf W).d⟩ (fun hS => ?_)
    have f1 : ∀ W', (Blk W' (n0 + 4) 3 #[.int .i64 lo] ∧ Blk W' (n0 + 5) 3 #[.int .i64 hi]) → W'.cell? ⟨n0 + 4, 0, none⟩ = some (.int .i64 lo) := fun W' h => h.1.cell 0
    have f2 : ∀ W', (Blk W' (n0 + 4) 3 #[.int .i64 lo] ∧ Blk W' (n0 + 5) 3 #[.int .i64 hi]) → W'.cell? ⟨n0 + 5, 0, none⟩ = some (.int .i64 hi) := fun W' h => h.2.cell 0
    refine wpAnyY_take (i := 0) (v := ?_) rfl (by kernel_rfl) (by kernel_rfl) (by kernel_rfl) (by kernel_rfl) (fun _ _ _ h => h) (Or.inl ⟨by kernel_rfl, ?_⟩) (by assumption) ?_
    rotate_left
    · intro w' hSw; go_simp; with_reducible rfl
    try simp only [Act.put, List.setIfInBounds_toArray, List.set_cons_zero, List.set_cons_succ]
    refine wpAnyY_take (i := 1) (v := ?_) rfl (by kernel_rfl) (by kernel_rfl) (by kernel_rfl) (by kernel_rfl) (fun _ _ _ h => h) (Or.inl ⟨by kernel_rfl, ?_⟩) (by assumption) ?_
    rotate_left
    · intro w' hSw; go_simp; with_reducible rfl
    try simp only [Act.put, List.setIfInBounds_toArray, List.set_cons_zero, List.set_cons_succ]
    refine wpAnyY_take (i := 3) (v := ?_) rfl (by kernel_rfl) (by kernel_rfl) (by kernel_rfl) (by kernel_rfl) (fun _ _ _ h => h) (Or.inl ⟨by kernel_rfl, ?_⟩) (by assumption) ?_
    rotate_left
    · intro w' hSw; go_simp; with_reducible rfl
    try simp only [Act.put, List.setIfInBounds_toArray, List.set_cons_zero, List.set_cons_succ]
    refine wpAnyY_take (i := 4) (v := ?_) rfl (by kernel_rfl) (by kernel_rfl) (by kernel_rfl) (by kernel_rfl) (fun _ _ _ h => h) (Or.inl ⟨by kernel_rfl, ?_⟩) (by assumption) ?_
    rotate_left
    · intro w' hSw; go_simp; with_reducible rfl
    try simp only [Act.put, List.setIfInBounds_toArray, List.set_cons_zero, List.set_cons_succ]
    refine wpAnyY_oneSW (i := 2) (by kernel_rfl) rfl (by kernel_rfl) (fun K2 hK2 => ?_)
    go_simp
    refine (HRC.out W.drew lo hG0.d lb (by omega)).mono ?_
    rintro e w2 ⟨rfl, hG2⟩
    have i1 := (i1.keep (G.rf W).d).keep hG2
    have i2 := (i2.keep (G.rf W).d).keep hG2
    have e3 := (e3.keep (G.rf W).d).keep hG2
    have hDef : w2.heap[D]? = some (.deferred (some [])) := (hG2.block D (Array.getElem?_eq_some_iff.1 hDef).1).trans hDef
    have hfr : Fr (fun i => i = n0 + 4 ∨ i = n0 + 5) W0 w2 := hfr.d.g hG2
    have hG0 : G w w2 := hG0.d.t hG2
    clear hG2 hS
    refine hK2.out _ _ ⟨i1, i2⟩ (fun hS => ?_)
    try simp only [Act.put, List.setIfInBounds_toArray, List.set_cons_zero, List.set_cons_succ]
    refine wpAnyY_oneSW (i := 5) (by kernel_rfl) rfl (by kernel_rfl) (fun K5 hK5 => ?_)
    go_simp
    refine (HRC.out w2 hi hG0 hb2.1 (by omega)).mono ?_
    rintro e w3 ⟨rfl, hG2⟩
    have i1 := i1.keep hG2
    have i2 := i2.keep hG2
    have e3 := e3.keep hG2
    have hDef : w3.heap[D]? = some (.deferred (some [])) := (hG2.block D (Array.getElem?_eq_some_iff.1 hDef).1).trans hDef
    have hfr : Fr (fun i => i = n0 + 4 ∨ i = n0 + 5) W0 w3 := hfr.g hG2
    have hG0 : G w w3 := hG0.t hG2
    clear hG2 hS
    refine hK5.out _ _ ⟨i1, i2⟩ (fun hS => ?_)
    try simp only [Act.put, List.setIfInBounds_toArray, List.set_cons_zero, List.set_cons_succ]
    refine wpAnyY_oneSW (i := 6) (by kernel_rfl) rfl (by kernel_rfl) (fun K6 hK6 => ?_)
    go_simp
    refine hK6.out _ _ ⟨i1, i2⟩ (fun _ => ?_)
    try simp only [Act.put, List.setIfInBounds_toArray, List.set_cons_zero, List.set_cons_succ]
    have d0 : w3.cell? ⟨n0 + 3, 0, none⟩ = some (.int .i64 0) := e3.cell 0
    have d1 : w3.cell? ⟨n0 + 3, 1, none⟩ = some (.int .i64 0) := e3.cell 1
    have z0 := e3.frozen 0
    have z1 := e3.frozen 1
    have l3 := e3.lt
    refine wpAnyY_oneW (i := 7) (by kernel_rfl) rfl (by kernel_rfl) (by kernel_rfl) (fun K7 hK7 => ?_)
    go_simp
    have e5 := (e3.set_ 0 (.int .i64 (rnd rule lo.toNat))).set_ 1 (.int .i64 (rnd rule hi.toNat))
    have hDef : ((w3.setCell ⟨n0 + 3, 0, none⟩ (.int .i64 (rnd rule lo.toNat))).setCell ⟨n0 + 3, 1, none⟩ (.int .i64 (rnd rule hi.toNat))).heap[D]? = some (.deferred (some [])) :=
      (Below.heap_setCell _ _ _ _ (by simp; omega)).trans ((Below.heap_setCell _ _ _ _ (by simp; omega)).trans hDef)
    have hG0 : G w ((w3.setCell ⟨n0 + 3, 0, none⟩ (.int .i64 (rnd rule lo.toNat))).setCell ⟨n0 + 3, 1, none⟩ (.int .i64 (rnd rule hi.toNat))) := (hG0.s (by have := HN0.out; simp; omega) _).s (by have := HN0.out; simp; omega) _
    have hD2 : w.heap.size ≤ D := by have := HN0.out; omega
    clear d0 d1 z0 z1 l3 i1 i2 hfr e3 f1 f2
    refine hK7.out _ _ ?_
    clear hK7 hK6 hK5 hK2
    generalize (w3.setCell ⟨n0 + 3, 0, none⟩ (.int .i64 (rnd rule lo.toNat))).setCell ⟨n0 + 3, 1, none⟩ (.int .i64 (rnd rule hi.toNat)) = w4 at *
    have d0 : w4.cell? ⟨n0 + 3, 0, none⟩ = some (.int .i64 (rnd rule lo.toNat)) := e5.cell 0
    have d1 : w4.cell? ⟨n0 + 3, 1, none⟩ = some (.int .i64 (rnd rule hi.toNat)) := e5.cell 1
    refine wpAnyY_done (by kernel_rfl) ?_ _
    gi_wp2
    refine ⟨by simp, .inl ⟨_, _, rfl, run_takeDeferred hDef, ?_⟩⟩
    have hf : Fr (fun i => i = D) w4 (w4.putObj D (.deferred none)) := ⟨rfl, rfl, rfl, by simp [World.putObj], fun i _ hn => World.putObj_heap_other hn⟩
    have e6 := hf.blk e5 (by omega)
    have hG5 : G w (w4.putObj D (.deferred none)) := ((G.fr (R := fun _ => False) hG0).t2 hf (fun i hi h => by omega)).toG (fun _ _ h => h)
    exact ⟨_, res59 _ _ (n0 + 3) _ _ rfl (e6.cell 0) (e6.cell 1), by rw [HL.out, HLo.out, HHi.out], hG5⟩
  case stop =>
    rintro D c pre W _ _ h _
    exact h.elim
end Go.Proofs.Ytdneehbhncekaaa
set_option linter.unusedSimpArgs false
set_option linter.unusedVariables false
namespace Go.Proofs.Ytdneehbhncekaaa
open Go.RowKit Go.Shelf

theorem RoundAt.keep {w w' : World} {f : Value} {rule : Int} (h : RoundAt w f rule) (k : G w w') : RoundAt w' f rule := by
  obtain ⟨g, lb, h1, h2, h3⟩ := h
  exact ⟨g, lb, h1, h2, fun W n hW => h3 W n (k.t hW)⟩
theorem allP_mem {cols rows : Nat} {p : Nat × Nat} (h : p ∈ allP cols rows) : p.1 < cols ∧ p.2 < rows := by
  unfold allP rowP at h
  obtain ⟨y, hy, hp⟩ := List.mem_flatMap.1 h
  obtain ⟨x, hx, rfl⟩ := List.mem_map.1 hp
  simp at hx hy
  exact ⟨hx, hy⟩
theorem spotsOf_mem {north : Int} {cols : Nat} {east : List Int} {svs : List Sv} {l : Nat} {s : Sp} (h : s ∈ spotsOf north cols east svs l) : s.x < cols ∧ s.y < east.length := by
  unfold spotsOf at h
  obtain ⟨p, hp, rfl⟩ := List.mem_map.1 h
  exact allP_mem hp

theorem distance_any (north wrong : Int) (cols lofts a b : Nat) (east : List Int) (svs : List Sv) (ea sa : Option Addr) (ec sc O : Nat) (fv : Value) (rule : Int) (w : World)
    (he : IntsAt w ea east) (hv : validMapB north cols east lofts wrong = true) (hl2 : svs.length ≤ 16)
    (hOp : Opened w O north wrong cols lofts (.slice ea east.length ec) (.slice sa svs.length sc) (fewSum north cols east svs lofts) (spotsOf north cols east svs))
    (ha : a < lofts) (hb : b < lofts) (hR : RoundAt w fv rule) (hne : truthsOf (spotsOf north cols east svs) [a, b] (wrong - fewSum north cols east svs lofts) ≠ []) :
    Calls Try.prog 20 #[.pointer (some ⟨O, 0, none⟩), .int .i64 a, .int .i64 b, fv] w fun e w' =>
      e = .returned (.agg #[.int .i64 (rnd rule (loQ north east a b (truthsOf (spotsOf north cols east svs) [a, b] (wrong - fewSum north cols east svs lofts))).toNat), .int .i64 (rnd rule (hiQ north east a b (truthsOf (spotsOf north cols east svs) [a, b] (wrong - fewSum north cols east svs lofts))).toNat)]) ∧ G w w' := by
  obtain ⟨slv, hO, hS⟩ := hOp
  have hvb := vm_bounds hv
  exact callsIn_wide.1 (distance_in 4 (by omega) north wrong cols lofts a b east svs ea sa ec sc O (fewSum north cols east svs lofts) slv (spotsOf north cols east svs) fv rule w he hv (Nat.le_trans (fewSum_le north cols east svs lofts hl2) (by omega)) hO hS
    (fun j _ => spotsOf_len north cols east svs j (by omega) (by omega)) (fun l _ s hs => spotsOf_mem hs) ha hb hR hne)

theorem res24 (tmps : Array Value) (w : World) (g : Nat) (x y z : Int) (h : tmps.getD 8 undef = .pointer (some ⟨g, 0, none⟩)) (h9 : tmps.getD 9 undef = .int .i64 z) (c0 : w.cell? ⟨g, 0, none⟩ = some (.int .i64 x)) (c1 : w.cell? ⟨g, 1, none⟩ = some (.int .i64 y)) :
    (results Try.f9 tmps).run Try.prog w = .ok (.tuple #[.agg #[.int .i64 x, .int .i64 y], .int .i64 z]) w := by
  have hr : Try.f9.results = #[.cell 8 27, .tmp 9] := rfl
  have h' : tmps[8]?.getD undef = .pointer (some ⟨g, 0, none⟩) := by simpa using h
  have h9' : tmps[9]?.getD undef = .int .i64 z := by simpa using h9
  simp only [results, hr]
  go_simp

set_option maxHeartbeats 4000000 in
theorem Distance_ok (north wrong : Int) (cols lofts a b : Nat) (east : List Int) (svs : List Sv) (ea sa : Option Addr) (ec sc : Nat) (rule : Int) (w : World)
    (he : IntsAt w ea east) (hs : SvsAt w sa svs) (hk : checkE north cols east lofts svs wrong = 0) (hr : 0 ≤ rule ∧ rule ≤ 2) (ha : a < lofts) (hb : b < lofts) (hw : ¬ wrong < fewSum north cols east svs lofts)
    (hne : truthsOf (spotsOf north cols east svs) [a, b] (wrong - fewSum north cols east svs lofts) ≠ []) :
    Calls Try.prog 9 #[.agg #[.int .i64 north, .int .i64 cols, .slice ea east.length ec, .int .i64 lofts, .slice sa svs.length sc, .int .i64 wrong], .int .i64 a, .int .i64 b, .int .i64 rule] w fun e w' =>
      e = .returned (.tuple #[.agg #[.int .i64 (rnd rule (loQ north east a b (truthsOf (spotsOf north cols east svs) [a, b] (wrong - fewSum north cols east svs lofts))).toNat), .int .i64 (rnd rule (hiQ north east a b (truthsOf (spotsOf north cols east svs) [a, b] (wrong - fewSum north cols east svs lofts))).toNat)], .int .i64 0]) ∧ G w w' := by
  obtain ⟨hv, hl2, hso⟩ := checkE_zero hk
  have hvb := vm_bounds hv
  have hQ := fun (W : World) (hW : G w W) (g : Nat) (hg : Blk W g 3 #[.int .i64 a, .int .i64 b]) => question_ok north wrong cols lofts east svs ea sa ec sc true [(a : Int), (b : Int)] (some ⟨g, 0, none⟩) 2 W (he.below hW) (hs.below hW)
    (.inr ⟨g, 0, rfl, hg.lt, fun k hk2 => by
      rw [hg.cell]
      match k, hk2 with
      | 0, _ => rfl
      | 1, _ => rfl⟩) (by simp) hk
  have hD : (true && ([(a : Int), (b : Int)].all fun n => isInB n 0 (lofts - 1))) = true := by simp [isInB]; omega
  rw [hD] at hQ
  have hDi := fun (W : World) (hW : G w W) (O : Nat) (f : Value) (h1 : Opened W O north wrong cols lofts (.slice ea east.length ec) (.slice sa svs.length sc) (fewSum north cols east svs lofts) (spotsOf north cols east svs)) (h2 : RoundAt W f rule) =>
    distance_any north wrong cols lofts a b east svs ea sa ec sc O f rule W (he.below hW) hv hl2 h1 ha hb h2 hne
  have HQ := Lib.hid hQ
  have HD := Lib.hid hDi
  clear hQ hDi hk hv hso hne hD
  obtain ⟨mc, hmc⟩ : ∃ mc : Array Value, mc = #[.int .i64 north, .int .i64 cols, .slice ea east.length ec, .int .i64 lofts, .slice sa svs.length sc, .int .i64 wrong] := ⟨_, rfl⟩
  have B0 : Blk ((w.alloc (.cells #[.int .i64 north, .int .i64 cols, .slice ea east.length ec, .int .i64 lofts, .slice sa svs.length sc, .int .i64 wrong] 25)).alloc (.cells #[.int .i64 0, .int .i64 0] 27)) w.heap.size 25 #[.int .i64 north, .int .i64 cols, .slice ea east.length ec, .int .i64 lofts, .slice sa svs.length sc, .int .i64 wrong] := (Blk.new w 25 _).alloc _
  have B1 : Blk ((w.alloc (.cells #[.int .i64 north, .int .i64 cols, .slice ea east.length ec, .int .i64 lofts, .slice sa svs.length sc, .int .i64 wrong] 25)).alloc (.cells #[.int .i64 0, .int .i64 0] 27)) (w.heap.size + 1) 27 #[.int .i64 0, .int .i64 0] := Blk.new1 w _ 27 _
  have hG0 : G w ((w.alloc (.cells #[.int .i64 north, .int .i64 cols, .slice ea east.length ec, .int .i64 lofts, .slice sa svs.length sc, .int .i64 wrong] 25)).alloc (.cells #[.int .i64 0, .int .i64 0] 27)) := ((G.rf w).a _).a _
  go_enter Try.func9, Try.ntmps9
  go_wp2_with (first | (go_at_call 19; refine (rounding_ok rule _ hr).mono ?_; rintro e w' ⟨f, rfl, hGx, hRA⟩; have HRA := Lib.hid hRA; clear hRA; have b0 := B0.keep hGx; have b1 := B1.keep hGx; have hG := hG0.t hGx; have m0 := b0.cell 0; have m1 := b0.cell 1; have m2 := b0.cell 2; have m3 := b0.cell 3; have m4 := b0.cell 4; have m5 := b0.cell 5; clear hGx B0 B1 hG0))
  refine (HQ.out _ (hG.a _) w'.heap.size (Blk.new w' 3 _)).mono ?_
  rintro e w2 ⟨hG2, hp⟩
  rw [if_neg (by simp), if_neg (by omega)] at hp
  obtain ⟨O, hOl, rfl, hOp⟩ := hp
  have hGa := ((G.rf w').a (.cells #[.int .i64 a, .int .i64 b] 3)).t hG2
  have hG := hG.t hGa
  have b1 := b1.keep hGa
  have hRB := HRA.out.keep hGa
  have HRB := Lib.hid hRB
  generalize hlo : loQ north east a b (truthsOf (spotsOf north cols east svs) [a, b] (wrong - fewSum north cols east svs lofts)) = lo at *
  generalize hhi : hiQ north east a b (truthsOf (spotsOf north cols east svs) [a, b] (wrong - fewSum north cols east svs lofts)) = hi at *
  have HLo := Lib.hid hlo
  have HHi := Lib.hid hhi
  clear hlo hhi
  clear hGa hG2 hRB HRA b0 m0 m1 m2 m3 m4 m5 HQ
  go_wp2_with ((go_at_call 20; refine (HD.out _ hG O f hOp HRB.out).mono ?_; rintro e w3 ⟨rfl, hG3⟩; have b3 := b1.keep hG3; have hG4 := hG.t hG3; have d0 : w3.cell? ⟨w.heap.size + 1, 0, none⟩ = some (.int .i64 0) := b3.cell 0; have d1 : w3.cell? ⟨w.heap.size + 1, 1, none⟩ = some (.int .i64 0) := b3.cell 1; have z0 := b3.frozen 0; have z1 := b3.frozen 1; have l3 := b3.lt; clear HD hG hG3 hOp))
  have e3 := (b3.set_ 0 (.int .i64 (rnd rule lo.toNat))).set_ 1 (.int .i64 (rnd rule hi.toNat))
  refine bodyPost_ret (res24 _ _ (w.heap.size + 1) _ _ _ rfl rfl (e3.cell 0) (e3.cell 1)) rfl ?_
  exact ⟨by rw [HLo.out, HHi.out], (hG4.s (by simp) _).s (by simp) _⟩
end Go.Proofs.Ytdneehbhncekaaa
