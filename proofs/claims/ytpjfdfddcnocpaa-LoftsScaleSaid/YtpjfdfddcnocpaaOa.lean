import Derived.Test.YtpjfdfddcnocpaaCy
import Derived.Test.YtpjfdfddcnocpaaBr
import Derived.Test.YtpjfdfddcnocpaaRf
import Derived.Test.YtpjfdfddcnocpaaBz
import Derived.Deep.AppendLies
set_option linter.unusedSimpArgs false
set_option linter.unusedVariables false
namespace Go.Proofs.Ytpjfdfddcnocpaa
open Go.RowKit Go.Shelf
attribute [local go_sem] Oper.semAt_some

theorem wide_fn (f : Nat) : Fence.wide.fn f = True := rfl
theorem wide_dep : Fence.wide.depth = none := rfl
theorem wideR_fn (l f : Nat) : (Fence.wide.inRound l).fn f = True := rfl
theorem wideR_dep (l : Nat) : (Fence.wide.inRound l).depth = none := rfl
attribute [local go_sem] wide_fn wide_dep wideR_fn wideR_dep ptV

structure Sp where
  x : Nat
  y : Nat
  more : Nat
instance : Inhabited Sp := ⟨⟨0, 0, 0⟩⟩
def spotCells (l : List Sp) : List Value := l.flatMap fun s => [.int .i64 s.x, .int .i64 s.y, .int .i64 s.more]
def oc (north cols : Int) (E : Value) (lofts : Int) (S : Value) (wrong : Int) (sum : Nat) (sl : Nat → Value) : Array Value :=
  #[.int .i64 north, .int .i64 cols, E, .int .i64 lofts, S, .int .i64 wrong, .int .i64 sum, sl 0, sl 1, sl 2, sl 3, sl 4, sl 5, sl 6, sl 7]
def upd {α : Type} (f : Nat → α) (k : Nat) (v : α) : Nat → α := fun j => if j = k then v else f j

theorem oc_get {north cols lofts wrong : Int} {E S : Value} {sum : Nat} {sl : Nat → Value} {k : Nat} (hk : k < 8) : (oc north cols E lofts S wrong sum sl)[7 + k]? = some (sl k) := by
  match k, hk with
  | 0, _ => rfl
  | 1, _ => rfl
  | 2, _ => rfl
  | 3, _ => rfl
  | 4, _ => rfl
  | 5, _ => rfl
  | 6, _ => rfl
  | 7, _ => rfl
theorem oc_set {north cols lofts wrong : Int} {E S : Value} {sum : Nat} {sl : Nat → Value} {k : Nat} (hk : k < 8) (v : Value) : (oc north cols E lofts S wrong sum sl).setIfInBounds (7 + k) v = oc north cols E lofts S wrong sum (upd sl k v) := by
  match k, hk with
  | 0, _ => rfl
  | 1, _ => rfl
  | 2, _ => rfl
  | 3, _ => rfl
  | 4, _ => rfl
  | 5, _ => rfl
  | 6, _ => rfl
  | 7, _ => rfl
theorem oc_sum {north cols lofts wrong : Int} {E S : Value} {sum : Nat} {sl : Nat → Value} (v : Nat) : (oc north cols E lofts S wrong sum sl).setIfInBounds 6 (.int .i64 v) = oc north cols E lofts S wrong v sl := rfl

/-- a slice of spots, somewhere -/
def SpotsAt (W : World) (v : Value) (l : List Sp) : Prop := ∃ g cap, v = .slice (some ⟨g, 0, none⟩) l.length cap ∧ (∃ cur, Blk W g 120 cur) ∧
  ∀ i, i < l.length → W.cell? ⟨g, i * 3, none⟩ = some (.int .i64 (l.getD i default).x) ∧ W.cell? ⟨g, i * 3 + 1, none⟩ = some (.int .i64 (l.getD i default).y) ∧ W.cell? ⟨g, i * 3 + 2, none⟩ = some (.int .i64 (l.getD i default).more)
theorem SpotsAt.keep {W W' : World} {v : Value} {l : List Sp} (h : SpotsAt W v l) (hk : ∀ g, g < W.heap.size → v.ownBlock = some g → W'.heap[g]? = W.heap[g]?) (_ : W.heap.size ≤ W'.heap.size) : SpotsAt W' v l := by
  obtain ⟨g, cap, rfl, ⟨cur, hg⟩, hc⟩ := h
  have e := hk g hg.lt rfl
  have c : ∀ o, W'.cell? ⟨g, o, none⟩ = W.cell? ⟨g, o, none⟩ := fun o => World.cell?_of_block (w := W) (w' := W') (a := ⟨g, o, none⟩) e
  exact ⟨g, cap, rfl, ⟨cur, e.trans hg⟩, fun i hi => by rw [c, c, c]; exact hc i hi⟩

section
variable (north : Int) (cols : Nat) (east : List Int) (svs : List Sv)
def cost (loft : Nat) (p : Nat × Nat) : Nat := wrongN north east svs loft p.1 p.2
def minC (init : Nat) (l : List Nat) : Nat := l.foldl min init
def lowC (loft : Nat) (pl : List (Nat × Nat)) : Nat := minC svs.length (pl.map (cost north east svs loft))
def rawSpots (loft : Nat) (pl : List (Nat × Nat)) : List Sp := pl.map fun p => ⟨p.1, p.2, cost north east svs loft p⟩
def spotsOf (loft : Nat) : List Sp := (allP cols east.length).map fun p => ⟨p.1, p.2, cost north east svs loft p - lowC north east svs loft (allP cols east.length)⟩
def fewSum (k : Nat) : Nat := ((List.range k).map fun j => lowC north east svs j (allP cols east.length)).sum
end

theorem lowC_snoc (north : Int) (east : List Int) (svs : List Sv) (loft : Nat) (l : List (Nat × Nat)) (p : Nat × Nat) : lowC north east svs loft (l ++ [p]) = min (lowC north east svs loft l) (cost north east svs loft p) := by
  simp [lowC, minC, List.foldl_append]

theorem foldl_min_le (l : List Nat) : ∀ (a : Nat), l.foldl min a ≤ a ∧ ∀ x ∈ l, l.foldl min a ≤ x := by
  induction l with
  | nil => intro a; simp
  | cons b l ih =>
    intro a
    have h := ih (min a b)
    simp only [List.foldl_cons]
    refine ⟨by have := h.1; omega, fun x hx => ?_⟩
    rcases List.mem_cons.1 hx with rfl | hx
    · have := h.1; omega
    · exact h.2 x hx
theorem lowC_le (north : Int) (east : List Int) (svs : List Sv) (k : Nat) (pl : List (Nat × Nat)) (hl2 : svs.length ≤ 16) : lowC north east svs k pl ≤ 16 := by
  have := (foldl_min_le (pl.map (cost north east svs k)) svs.length).1
  unfold lowC minC
  omega
theorem fewSum_le (north : Int) (cols : Nat) (east : List Int) (svs : List Sv) (k : Nat) (hl2 : svs.length ≤ 16) : fewSum north cols east svs k ≤ k * 16 := by
  induction k with
  | zero => simp [fewSum]
  | succ k ih =>
    have e : fewSum north cols east svs (k + 1) = fewSum north cols east svs k + lowC north east svs k (allP cols east.length) := by simp [fewSum, List.range_succ]
    have := lowC_le north east svs k (allP cols east.length) hl2
    omega
def subM (m : Nat) (s : Sp) : Sp := ⟨s.x, s.y, s.more - m⟩
theorem wrongN_le (north : Int) (east : List Int) (svs : List Sv) (loft x y : Int) : wrongN north east svs loft x y ≤ svs.length := List.length_filter_le _ _
theorem rawSpots_low (north : Int) (cols lofts : Nat) (east : List Int) (svs : List Sv) (k : Nat) (hl2 : svs.length ≤ 16) (pl : List (Nat × Nat)) : ∀ s ∈ rawSpots north east svs k pl, lowC north east svs k pl ≤ s.more ∧ s.more ≤ 16 := by
  intro s hs
  simp only [rawSpots, List.mem_map] at hs
  obtain ⟨p, hp, rfl⟩ := hs
  refine ⟨(foldl_min_le _ _).2 _ (List.mem_map.2 ⟨p, hp, rfl⟩), ?_⟩
  have := wrongN_le north east svs k p.1 p.2
  show wrongN north east svs k p.1 p.2 ≤ 16
  omega

theorem Fr.t2 {R R' : Nat → Prop} {A B C : World} (h : Fr R A B) (k : Fr R' B C) (hr : ∀ i, i < A.heap.size → R' i → R i) : Fr R A C :=
  ⟨k.os.trans h.os, k.tape.trans h.tape, k.output.trans h.output, Nat.le_trans h.size k.size, fun i hi hn => (k.block i (Nat.lt_of_lt_of_le hi h.size) (fun h' => hn (hr i hi h'))).trans (h.block i hi hn)⟩
def mixL (raw : List Sp) (m q : Nat) : List Sp := (raw.take q).map (subM m) ++ raw.drop q
theorem spotCells_app (A B : List Sp) : spotCells (A ++ B) = spotCells A ++ spotCells B := by simp [spotCells]
theorem spotCells_len (A : List Sp) : (spotCells A).length = A.length * 3 := by
  induction A with
  | nil => rfl
  | cons a A ih => simp only [spotCells, List.flatMap_cons, List.length_append, List.length_cons, List.length_nil] at ih ⊢; omega
theorem mixL_at (raw : List Sp) (m q : Nat) (h : q < raw.length) :
    (spotCells (mixL raw m q))[q * 3 + 2]? = some (.int .i64 (raw.getD q default).more) ∧
    (spotCells (mixL raw m q)).set (q * 3 + 2) (.int .i64 (((raw.getD q default).more - m : Nat) : Int)) = spotCells (mixL raw m (q + 1)) := by
  have e1 : raw.drop q = raw.getD q default :: raw.drop (q + 1) := by rw [List.drop_eq_getElem_cons h]; simp [h]
  have e2 : mixL raw m (q + 1) = (raw.take q).map (subM m) ++ subM m (raw.getD q default) :: raw.drop (q + 1) := by
    unfold mixL
    rw [List.take_succ_eq_append_getElem h, List.map_append, List.append_assoc]
    have e : raw.getD q default = raw[q] := by simp [h]
    rw [e]
    rfl
  have e3 : mixL raw m q = (raw.take q).map (subM m) ++ raw.getD q default :: raw.drop (q + 1) := by unfold mixL; rw [e1]
  have hl : (spotCells ((raw.take q).map (subM m))).length = q * 3 := by rw [spotCells_len, List.length_map, List.length_take]; omega
  have c : ∀ (s : Sp) (B : List Sp), spotCells (s :: B) = .int .i64 s.x :: .int .i64 s.y :: .int .i64 s.more :: spotCells B := fun s B => by simp [spotCells]
  rw [e2, e3, spotCells_app, spotCells_app, c, c]
  constructor
  · rw [List.getElem?_append_right (by omega), hl, show q * 3 + 2 - q * 3 = 2 by omega]; rfl
  · rw [List.set_append_right _ _ (by omega), hl, show q * 3 + 2 - q * 3 = 2 by omega]; rfl

theorem spotCells_at (l : List Sp) (i : Nat) (h : i < l.length) : (spotCells l)[i * 3]? = some (.int .i64 (l.getD i default).x) ∧ (spotCells l)[i * 3 + 1]? = some (.int .i64 (l.getD i default).y) ∧ (spotCells l)[i * 3 + 2]? = some (.int .i64 (l.getD i default).more) := by
  have e : l = l.take i ++ l.getD i default :: l.drop (i + 1) := by
    have e1 : l.drop i = l.getD i default :: l.drop (i + 1) := by rw [List.drop_eq_getElem_cons h]; simp [h]
    rw [← e1, List.take_append_drop]
  have c : ∀ (s : Sp) (B : List Sp), spotCells (s :: B) = .int .i64 s.x :: .int .i64 s.y :: .int .i64 s.more :: spotCells B := fun s B => by simp [spotCells]
  have hl : (spotCells (l.take i)).length = i * 3 := by rw [spotCells_len, List.length_take]; omega
  have e3 : spotCells l = spotCells (l.take i) ++ .int .i64 (l.getD i default).x :: .int .i64 (l.getD i default).y :: .int .i64 (l.getD i default).more :: spotCells (l.drop (i + 1)) := by
    rw [← c, ← spotCells_app, ← e]
  rw [e3]
  generalize l.getD i default = s
  refine ⟨?_, ?_, ?_⟩
  · rw [List.getElem?_append_right (by omega), hl, show i * 3 - i * 3 = 0 by omega]; rfl
  · rw [List.getElem?_append_right (by omega), hl, show i * 3 + 1 - i * 3 = 1 by omega]; rfl
  · rw [List.getElem?_append_right (by omega), hl, show i * 3 + 2 - i * 3 = 2 by omega]; rfl
theorem SpotsAt.of_row {W : World} {base N cap gg : Nat} {l : List Sp} (hr : W.ownsRow base 120 3 (.slice (some ⟨gg, 0, none⟩) N cap) N (spotCells l)) (hl : l.length = N) : SpotsAt W (.slice (some ⟨gg, 0, none⟩) N cap) l := by
  refine ⟨gg, cap, by rw [hl], ?_, fun i hi => ?_⟩
  · rcases hr.2 with ⟨h0, _⟩ | ⟨g, cap', cur, h1, _, hgb, _⟩
    · cases h0
    · obtain rfl : gg = g := by simpa [Value.ownBlock] using congrArg Value.ownBlock h1
      exact ⟨cur, hgb⟩
  obtain ⟨h1, h2, h3⟩ := spotCells_at l i hi
  exact ⟨(hr.cellAt _ (by omega)).trans h1, (hr.cellAt _ (by omega)).trans h2, (hr.cellAt _ (by omega)).trans h3⟩
def S14 (Vo Bl O Bf gg q more : Nat) (oc : Array Value) (k mn : Nat) (W' : World) : Prop :=
  Blk W' Vo 75 #[.pointer (some ⟨O, 0, none⟩)] ∧ Blk W' Bl 3 #[.int .i64 k] ∧ Blk W' O 91 oc ∧ Blk W' Bf 3 #[.int .i64 mn] ∧ W'.cell? ⟨gg, q * 3 + 2, none⟩ = some (.int .i64 more)
def S16 (Vo O Bf : Nat) (oc : Array Value) (mn : Nat) (W' : World) : Prop :=
  Blk W' Vo 75 #[.pointer (some ⟨O, 0, none⟩)] ∧ Blk W' O 91 oc ∧ Blk W' Bf 3 #[.int .i64 mn]
def OpenRow2 (Vo Bl O Bf gg N cap : Nat) (W8 : World) (oc : Array Value) (k mn : Nat) (l : List Sp) (W' : World) : Prop :=
  Blk W' Vo 75 #[.pointer (some ⟨O, 0, none⟩)] ∧ Blk W' Bl 3 #[.int .i64 k] ∧ Blk W' O 91 oc ∧ Blk W' Bf 3 #[.int .i64 mn] ∧ W'.ownsRow (Bl + 3) 120 3 (.slice (some ⟨gg, 0, none⟩) N cap) N (spotCells l) ∧ Fr (fun i => i = gg) W8 W'

/-- the mark of a range over a function among the deferred calls -/
abbrev markD (D : Nat) : Deferred := { target := .collected D, args := #[] }
def Marks (B : Nat) (Ds : List Nat) (w : World) : Prop := Ds.Nodup ∧ ∀ D, D ∈ Ds → B ≤ D ∧ w.heap[D]? = some (.deferred (some []))
theorem Marks.nil (B : Nat) (w : World) : Marks B [] w := ⟨List.nodup_nil, fun _ h => by cases h⟩

def OpenInv (w : World) (north wrong : Int) (cols lofts : Nat) (east : List Int) (svs : List Sv) (ea sa : Option Addr) (ec sc : Nat) (k : Nat) (wr : World) : Prop :=
  ∃ slv : Nat → Value, Blk wr w.heap.size 25 #[.int .i64 north, .int .i64 cols, .slice ea east.length ec, .int .i64 lofts, .slice sa svs.length sc, .int .i64 wrong] ∧
    Blk wr (w.heap.size + 1) 91 (oc north cols (.slice ea east.length ec) lofts (.slice sa svs.length sc) wrong (fewSum north cols east svs k) slv) ∧
    Blk wr (w.heap.size + 1 + 1) 75 #[.pointer (some ⟨w.heap.size + 1, 0, none⟩)] ∧
    (∀ j, k ≤ j → slv j = .slice none 0 0) ∧ (∀ j, j < k → SpotsAt wr (slv j) (spotsOf north cols east svs j)) ∧ G w wr

theorem leaves_marks {F : Fence} {n : Nat} {P : Program} {fn : Func} {tmps : Array Value} {R : Ending → World → Prop} {B : Nat} : ∀ (Ds : List Nat) (w : World), Marks B Ds w →
    (∀ w', Fr (fun i => i ∈ Ds) w w' → LeavesInM F n P fn tmps R [] .returning w') → LeavesInM F n P fn tmps R (Ds.map markD) .returning w
  | [], w, _, h => h w (Fr.rf _ _)
  | D :: Ds, w, hm, h => by
    have hD := hm.2 D List.mem_cons_self
    have hnd := List.nodup_cons.1 hm.1
    refine ⟨by simp, .inl ⟨D, _, rfl, run_takeDeferred hD.2, ?_⟩⟩
    have hf : Fr (fun i => i = D) w (w.putObj D (.deferred none)) := ⟨rfl, rfl, rfl, by simp [World.putObj], fun i _ hn => World.putObj_heap_other hn⟩
    refine leaves_marks (B := B) Ds _ ⟨hnd.2, fun D' h' => ⟨(hm.2 D' (List.mem_cons_of_mem _ h')).1, (hf.block D' (Array.getElem?_eq_some_iff.1 (hm.2 D' (List.mem_cons_of_mem _ h')).2).1 (fun e => hnd.1 (e ▸ h'))).trans (hm.2 D' (List.mem_cons_of_mem _ h')).2⟩⟩ (fun w' hw' => h w' ?_)
    exact (hf.mono (fun i _ e => by rw [e]; exact List.mem_cons_self)).t (hw'.mono (fun i _ e => List.mem_cons_of_mem _ e))
theorem Marks.ne {B : Nat} {Ds : List Nat} {w : World} (h : Marks B Ds w) {g : Nat} {t : TypeId} {cs : Array Value} (hb : Blk w g t cs) : ¬ g ∈ Ds := fun hm => by
  have h1 := (h.2 g hm).2
  rw [show w.heap[g]? = _ from hb] at h1; cases h1
theorem OpenInv.marks {w : World} {north wrong : Int} {cols lofts : Nat} {east : List Int} {svs : List Sv} {ea sa : Option Addr} {ec sc : Nat} {k : Nat} {wr w' : World} {Ds : List Nat}
    (h : OpenInv w north wrong cols lofts east svs ea sa ec sc k wr) (hm : Marks w.heap.size Ds wr) (hne : ∀ j, 0 < (spotsOf north cols east svs j).length) (hf : Fr (fun i => i ∈ Ds) wr w') :
    OpenInv w north wrong cols lofts east svs ea sa ec sc k w' := by
  obtain ⟨slv, bM, bO, bV, hnil, hsp, hG⟩ := h
  refine ⟨slv, hf.blk bM (hm.ne bM), hf.blk bO (hm.ne bO), hf.blk bV (hm.ne bV), hnil, fun j hj => ?_, ((G.fr (R := fun _ => False) hG).t2 hf (fun i hi h => ?_)).toG (fun _ _ h => h)⟩
  · have hsj := hsp j hj
    refine hsj.keep (fun g hg e => hf.block g hg ?_) hf.size
    intro hmem
    obtain ⟨g', cap', hv', _, hc'⟩ := hsj
    rw [hv'] at e
    obtain rfl : g' = g := by simpa [Value.ownBlock] using e
    have h2 := (hc' 0 (hne j)).1
    have h3 := (hm.2 _ hmem).2
    simp [World.cell?, h3] at h2
  · have := (hm.2 i h).1
    omega

/-- between two rounds of the loop over the places of loft k -/
def OpenRow (w wk : World) (north wrong : Int) (cols lofts : Nat) (east : List Int) (svs : List Sv) (ea sa : Option Addr) (ec sc : Nat) (k : Nat) (slv : Nat → Value) (pre : List (Nat × Nat)) (W : World) : Prop :=
  ∃ v, Blk W w.heap.size 25 #[.int .i64 north, .int .i64 cols, .slice ea east.length ec, .int .i64 lofts, .slice sa svs.length sc, .int .i64 wrong] ∧
    Blk W (w.heap.size + 1) 91 (oc north cols (.slice ea east.length ec) lofts (.slice sa svs.length sc) wrong (fewSum north cols east svs k) (upd slv k v)) ∧
    Blk W (w.heap.size + 1 + 1) 75 #[.pointer (some ⟨w.heap.size + 1, 0, none⟩)] ∧
    Blk W wk.heap.size 3 #[.int .i64 k] ∧ Blk W (wk.heap.size + 1) 3 #[.int .i64 (lowC north east svs k pre)] ∧
    W.ownsRow (wk.heap.size + 3) 120 3 v pre.length (spotCells (rawSpots north east svs k pre)) ∧ Fr (fun i => i = w.heap.size + 1) wk W ∧ wk.heap.size + 3 ≤ W.heap.size

theorem ownsRow_kept' {W W' : World} {base : Nat} {e : TypeId} {size : Nat} {v : Value} {k : Nat} {xs : List Value} {row : Option Nat} (h : W.ownsRow base e size v k xs) (hg : W.grownBy W' row)
    (hrow : ∀ r, row = some r → ∃ o : Obj, W.heap[r]? = some o ∧ o.isCells = false) : W'.ownsRow base e size v k xs := by
  refine h.kept hg ?_
  rcases h.2 with ⟨rfl, _⟩ | ⟨g, cap, cur, rfl, _, hgb, _⟩
  · exact .inl rfl
  · refine .inr fun e' => ?_
    obtain ⟨o, ho, hc⟩ := hrow g (by simpa [Value.ownBlock] using e'.symm)
    rw [hgb] at ho; cases ho; cases hc

theorem openRow_own (w wk : World) (north wrong : Int) (cols lofts : Nat) (east : List Int) (svs : List Sv) (ea sa : Option Addr) (ec sc : Nat) (k : Nat) (slv : Nat → Value) (B : Nat) (hB : wk.heap.size ≤ B) :
    OwnFrom B (OpenRow w wk north wrong cols lofts east svs ea sa ec sc k slv) := by
  rintro pre X Y row ⟨v, b1, b2, b3, b4, b5, hr, hf, hs⟩ hg hrow
  have hn : ∀ {g : Nat} {t : TypeId} {cs : Array Value}, Blk X g t cs → some g ≠ row := fun hb e => by
    obtain ⟨_, o, ho, hc⟩ := hrow _ e.symm
    rw [show X.heap[_]? = _ from hb] at ho; cases ho; cases hc
  exact ⟨v, b1.grown hg (hn b1), b2.grown hg (hn b2), b3.grown hg (hn b3), b4.grown hg (hn b4), b5.grown hg (hn b5), ownsRow_kept' hr hg (fun r e => (hrow r e).2), hf.grown hg (fun g e => .inr (Nat.le_trans hB (hrow g e).1)), Nat.le_trans hs hg.size⟩

theorem ownsRow_G {W W' : World} {base : Nat} {e : TypeId} {size : Nat} {v : Value} {k : Nat} {xs : List Value} (h : W.ownsRow base e size v k xs) (hg : G W W') : W'.ownsRow base e size v k xs :=
  ownsRow_kept' (row := none) h ⟨hg.os, hg.tape, hg.output, hg.size, fun i hi _ => hg.block i hi⟩ (fun _ e => by cases e)

theorem upd_upd {α : Type} (f : Nat → α) (k : Nat) (u v : α) : upd (upd f k u) k v = upd f k v := by
  funext j
  unfold upd
  split <;> rfl
theorem grownBy_set (W : World) (a : Addr) (v : Value) : W.grownBy (W.setCell a v) (some a.block) :=
  ⟨rfl, rfl, rfl, (KeepsWalks.setCell W _ v).size, fun k _ hk => Below.heap_setCell _ _ _ k (fun e => hk (by rw [e]))⟩
theorem Blk.dr {w : World} {g : Nat} {t : TypeId} {cs : Array Value} (h : Blk w g t cs) : Blk w.drew g t cs := h
theorem own_ne {W : World} {g : Nat} {t e : TypeId} {cs : Array Value} {base size k : Nat} {v : Value} {xs : List Value} (hr : W.ownsRow base e size v k xs) (h : Blk W g t cs) (hte : t ≠ e) : some g ≠ v.ownBlock := by
  rcases hr.2 with ⟨rfl, _⟩ | ⟨g', cap, cur, rfl, _, hgb, _⟩
  · simp [Value.ownBlock]
  · intro e'
    obtain rfl : g = g' := by simpa [Value.ownBlock] using e'
    have := (show W.heap[g]? = _ from h).symm.trans hgb
    simp at this
    exact hte this.2
theorem own_far {W : World} {g : Nat} {e : TypeId} {base size k : Nat} {v : Value} {xs : List Value} (hr : W.ownsRow base e size v k xs) (hg : W.heap.size ≤ g) : some g ≠ v.ownBlock := by
  rcases hr.2 with ⟨rfl, _⟩ | ⟨g', cap, cur, rfl, _, hgb, _⟩
  · simp [Value.ownBlock]
  · intro e'
    obtain rfl : g = g' := by simpa [Value.ownBlock] using e'
    have := (Array.getElem?_eq_some_iff.1 hgb).1
    omega
theorem own_base {W : World} {g : Nat} {e : TypeId} {base size k : Nat} {v : Value} {xs : List Value} (hr : W.ownsRow base e size v k xs) (hg : v.ownBlock = some g) : base ≤ g := by
  rcases hr.2 with ⟨rfl, _⟩ | ⟨g', cap, cur, rfl, hb, hgb, _⟩
  · simp [Value.ownBlock] at hg
  · obtain rfl : g' = g := by simpa [Value.ownBlock] using hg
    exact hb
theorem own_cells {W : World} {g : Nat} {e : TypeId} {base size k : Nat} {v : Value} {xs : List Value} (hr : W.ownsRow base e size v k xs) (hg : v.ownBlock = some g) : ∃ c t f, W.heap[g]? = some (.cells c t f) := by
  rcases hr.2 with ⟨rfl, _⟩ | ⟨g', cap, cur, rfl, hb, hgb, _⟩
  · simp [Value.ownBlock] at hg
  · obtain rfl : g' = g := by simpa [Value.ownBlock] using hg
    exact ⟨_, _, _, hgb⟩
theorem info120 : (Try.prog.info? 120).map (fun i => (i.zero, i.size, i.bytes)) = some (some (.agg #[.int .i64 0, .int .i64 0, .int .i64 0]), 3, 24) := by kernel_rfl

/-- what the statement 'o.spots[loft] = append(..)' reads -/
def S9 (w wk W3 : World) (Sb k : Nat) (p : Nat × Nat) (c : Nat) (oc : Array Value) (W' : World) : Prop :=
  Blk W' (w.heap.size + 1 + 1) 75 #[.pointer (some ⟨w.heap.size + 1, 0, none⟩)] ∧ Blk W' wk.heap.size 3 #[.int .i64 k] ∧ Blk W' (w.heap.size + 1) 91 oc ∧ Blk W' Sb 120 #[.int .i64 p.1, .int .i64 p.2, .int .i64 c]

set_option maxRecDepth 100000 in
set_option maxHeartbeats 4000000 in
theorem open_in (n : Nat) (hn : 4 ≤ n) (north wrong : Int) (cols lofts : Nat) (east : List Int) (svs : List Sv) (ea sa : Option Addr) (ec sc : Nat) (w : World) (he : IntsAt w ea east) (hs0 : SvsAt w sa svs)
    (hl2 : svs.length ≤ 16) (hv : validMapB north cols east lofts wrong = true) (hso : svs.all (svOk cols east.length lofts) = true) :
    CallsIn Fence.wide n Try.prog 64 #[.agg #[.int .i64 north, .int .i64 cols, .slice ea east.length ec, .int .i64 lofts, .slice sa svs.length sc, .int .i64 wrong]] w fun e w' =>
      e = .returned (.pointer (some ⟨w.heap.size + 1, 0, none⟩)) ∧ OpenInv w north wrong cols lofts east svs ea sa ec sc lofts w' := by
  have hvb := vm_bounds hv
  have hlo8 : lofts ≤ 8 := by omega
  have hc10 : cols ≤ 10 := by omega
  have hr10 : east.length ≤ 10 := hvb.2.2.2.2.1.2
  clear hvb
  refine callsIn_of_wp_marks Try.func64 rfl trivial ?_ rfl
  simp only [Try.ntmps64, List.size_toArray, List.length_cons, List.length_nil, Nat.reduceAdd, Nat.reduceSub, Array.replicate_succ, Array.replicate_zero, List.push_toArray, List.append_toArray, List.nil_append, List.cons_append]
  gi_wp2
  refine wpIn_loop (fun a' w' => ∃ (k : Nat) (Ds : List Nat) (u4 u5 u6 u7 u8 u15 u16 u17 u18 u19 u20 u21 u23 u24 u25 u26 u27 u28 u29 u30 u31 u32 u33 u34 u35 u36 u37 u38 u39 u40 u41 u42 u43 u44 u45 u46 u47 u48 u49 u50 u51 u52 u53 u54 u55 u56 u57 u58 u59 u60 u61 u62 u63 u64 u65 u66 u67 u68 u69 u70 u71 u72 u73 u74 u75 u76 u77 u78 u79 u80 : Value), (k ≤ lofts ∧ OpenInv w north wrong cols lofts east svs ea sa ec sc k w' ∧ Marks w.heap.size Ds w') ∧
      a' = { tmps := #[.agg #[.int .i64 north, .int .i64 cols, .slice ea east.length ec, .int .i64 lofts, .slice sa svs.length sc, .int .i64 wrong], .pointer (some ⟨w.heap.size, 0, none⟩), .pointer none, .pointer (some ⟨w.heap.size + 1 + 1, 0, none⟩), u4, u5, u6, u7, u8, .agg #[.int .i64 north, .int .i64 cols, .slice ea east.length ec, .int .i64 lofts, .slice sa svs.length sc, .int .i64 wrong], .agg #[.int .i64 north, .int .i64 cols, .slice ea east.length ec, .int .i64 lofts, .slice sa svs.length sc, .int .i64 wrong, .int .i64 0, .slice none 0 0, .slice none 0 0, .slice none 0 0, .slice none 0 0, .slice none 0 0, .slice none 0 0, .slice none 0 0, .slice none 0 0], .pointer (some ⟨w.heap.size + 1, 0, none⟩), .pointer (some ⟨w.heap.size, 3, none⟩), .int .i64 lofts, .int .i64 k, u15, u16, u17, u18, u19, u20, u21, undef, u23, u24, u25, u26, u27, u28, u29, u30, u31, u32, u33, u34, u35, u36, u37, u38, u39, u40, u41, u42, u43, u44, u45, u46, u47, u48, u49, u50, u51, u52, u53, u54, u55, u56, u57, u58, u59, u60, u61, u62, u63, u64, u65, u66, u67, u68, u69, u70, u71, u72, u73, u74, u75, u76, u77, u78, u79, u80, undef], defers := Ds.map markD }) (fun a' _ => lofts - (intOf (a'.tmps.getD 14 undef)).toNat) ?_ ?_
  · refine ⟨0, [], ?_⟩
    repeat apply Exists.intro
    refine ⟨⟨Nat.zero_le _, ⟨fun _ => .slice none 0 0, ((Blk.new _ _ _).alloc _).alloc _, (Blk.new1 _ _ _ _).alloc _, Blk.new2 _ _ _ _ _, fun _ _ => rfl, fun j hj => absurd hj (Nat.not_lt_zero _), (((G.rf _).a _).a _).a _⟩, Marks.nil _ _⟩, rfl⟩
  · intro _ wr hinv
    obtain ⟨k, hinv⟩ := hinv
    obtain ⟨Ds, hinv⟩ := hinv
    obtain ⟨u4, hinv⟩ := hinv
    obtain ⟨u5, hinv⟩ := hinv
    obtain ⟨u6, hinv⟩ := hinv
    obtain ⟨u7, hinv⟩ := hinv
    obtain ⟨u8, hinv⟩ := hinv
    obtain ⟨u15, hinv⟩ := hinv
    obtain ⟨u16, hinv⟩ := hinv
    obtain ⟨u17, hinv⟩ := hinv
    obtain ⟨u18, hinv⟩ := hinv
    obtain ⟨u19, hinv⟩ := hinv
    obtain ⟨u20, hinv⟩ := hinv
    obtain ⟨u21, hinv⟩ := hinv
    obtain ⟨u23, hinv⟩ := hinv
    obtain ⟨u24, hinv⟩ := hinv
    obtain ⟨u25, hinv⟩ := hinv
    obtain ⟨u26, hinv⟩ := hinv
    obtain ⟨u27, hinv⟩ := hinv
    obtain ⟨u28, hinv⟩ := hinv
    obtain ⟨u29, hinv⟩ := hinv
    obtain ⟨u30, hinv⟩ := hinv
    obtain ⟨u31, hinv⟩ := hinv
    obtain ⟨u32, hinv⟩ := hinv
    obtain ⟨u33, hinv⟩ := hinv
    obtain ⟨u34, hinv⟩ := hinv
    obtain ⟨u35, hinv⟩ := hinv
    obtain ⟨u36, hinv⟩ := hinv
    obtain ⟨u37, hinv⟩ := hinv
    obtain ⟨u38, hinv⟩ := hinv
    obtain ⟨u39, hinv⟩ := hinv
    obtain ⟨u40, hinv⟩ := hinv
    obtain ⟨u41, hinv⟩ := hinv
    obtain ⟨u42, hinv⟩ := hinv
    obtain ⟨u43, hinv⟩ := hinv
    obtain ⟨u44, hinv⟩ := hinv
    obtain ⟨u45, hinv⟩ := hinv
    obtain ⟨u46, hinv⟩ := hinv
    obtain ⟨u47, hinv⟩ := hinv
    obtain ⟨u48, hinv⟩ := hinv
    obtain ⟨u49, hinv⟩ := hinv
    obtain ⟨u50, hinv⟩ := hinv
    obtain ⟨u51, hinv⟩ := hinv
    obtain ⟨u52, hinv⟩ := hinv
    obtain ⟨u53, hinv⟩ := hinv
    obtain ⟨u54, hinv⟩ := hinv
    obtain ⟨u55, hinv⟩ := hinv
    obtain ⟨u56, hinv⟩ := hinv
    obtain ⟨u57, hinv⟩ := hinv
    obtain ⟨u58, hinv⟩ := hinv
    obtain ⟨u59, hinv⟩ := hinv
    obtain ⟨u60, hinv⟩ := hinv
    obtain ⟨u61, hinv⟩ := hinv
    obtain ⟨u62, hinv⟩ := hinv
    obtain ⟨u63, hinv⟩ := hinv
    obtain ⟨u64, hinv⟩ := hinv
    obtain ⟨u65, hinv⟩ := hinv
    obtain ⟨u66, hinv⟩ := hinv
    obtain ⟨u67, hinv⟩ := hinv
    obtain ⟨u68, hinv⟩ := hinv
    obtain ⟨u69, hinv⟩ := hinv
    obtain ⟨u70, hinv⟩ := hinv
    obtain ⟨u71, hinv⟩ := hinv
    obtain ⟨u72, hinv⟩ := hinv
    obtain ⟨u73, hinv⟩ := hinv
    obtain ⟨u74, hinv⟩ := hinv
    obtain ⟨u75, hinv⟩ := hinv
    obtain ⟨u76, hinv⟩ := hinv
    obtain ⟨u77, hinv⟩ := hinv
    obtain ⟨u78, hinv⟩ := hinv
    obtain ⟨u79, hinv⟩ := hinv
    obtain ⟨u80, hinv⟩ := hinv
    obtain ⟨hrel, ha⟩ := hinv
    subst ha
    obtain ⟨hk, ⟨slv, bM, bO, bV, hnil, hsp, hG⟩, hMk⟩ := hrel
    have m0 := bM.cell 0
    have m1 := bM.cell 1
    have m2 := bM.cell 2
    have m3 := bM.cell 3
    have m4 := bM.cell 4
    have m5 := bM.cell 5
    have lM := bM.lt
    by_cases hlt : k < lofts
    · obtain ⟨wk, rfl⟩ : ∃ wk, wk = wr := ⟨_, rfl⟩
      gi_wp2_with (gi_at_call 93; refine (callsIn_wide.2 (allPlaces_any _ _ _ _ _ _ _)).mono ?_; rintro e w' ⟨rfl, rfl⟩)
      have hsz : wk.heap.size + 1 + 1 < (((wk.alloc (.cells #[.int .i64 k] 3)).alloc (.cells #[.int .i64 svs.length] 3)).alloc (.cells #[.int .i64 north, .int .i64 cols, .slice ea east.length ec, .int .i64 lofts, .slice sa svs.length sc, .int .i64 wrong] 25)).heap.size := by simp
      refine rangeFunc_box (F := Fence.wide) (α := Pl cols east.length) (gf := 106) (lb := #[.pointer (some ⟨wk.heap.size + 1 + 1, 0, none⟩)]) rfl (by omega) rfl trivial (enters_of Try.func106 (by kernel_rfl) rfl)
        (ev := fun x => ptV x.1) (B := wk.heap.size + 1 + 1) (allPl_stops (n - 1) (by omega) (wk.heap.size + 1 + 1) cols east.length ec north ea (.int .i64 lofts) (.slice sa svs.length sc) (.int .i64 wrong) hc10 hr10 _ (Blk.new2 _ _ _ _ _))
        hsz (Below.refl _ _)
        (fun pre W => OpenRow w wk north wrong cols lofts east svs ea sa ec sc k slv (pre.map (·.1)) W) (fun _ _ _ => False) ?hI (fun _ _ _ _ _ h _ _ => h) ?hIs ?h0 6 27 (fun x => #[.int .i64 x.1.1, .int .i64 x.1.2]) ?assign ?body ?done ?stop
      case hI => exact fun s => openRow_own _ _ _ _ _ _ _ _ _ _ _ _ _ _ _ (by simp; omega) (s.map (·.1))
      case hIs =>
        rintro pre W ⟨v, _, _, _, _, _, _, _, h⟩
        simpa using h
      case h0 =>
        refine ⟨.slice none 0 0, ((bM.alloc _).alloc _).alloc _, ?_, ((bV.alloc _).alloc _).alloc _, ((Blk.new _ _ _).alloc _).alloc _, (Blk.new1 _ _ _ _).alloc _, World.ownsRow_nil _ _ _ _, (((Fr.rf _ _).a _).a _).a _, by simp⟩
        have e : upd slv k (.slice none 0 0) = slv := by
          funext j
          unfold upd
          split
          · rename_i h; rw [h, hnil k (Nat.le_refl _)]
          · rfl
        rw [e]
        exact ((bO.alloc _).alloc _).alloc _
      case assign =>
        intro l x W K hK
        gi_wp2
        exact hK
      case body =>
        rintro l pre x Bp W hl hrec ⟨v, b1, b2, b3, b4, b5, hr, hf, hs⟩ hBp bP hN
        clear m0 m1 m2 m3 m4 m5 lM
        gi_wp2
        refine wpIn_region_held (l := some l) (S := G W) 8 rfl (by kernel_rfl) (fun ⟨_, _, h⟩ => h) (by kernel_rfl) (G.rf W).d (fun hS => ?_)
        have fP0 : ∀ W', G W W' → W'.cell? ⟨Bp, 0, none⟩ = some (.int .i64 x.1.1) := fun W' h => (bP.keep h).cell 0
        have fP1 : ∀ W', G W W' → W'.cell? ⟨Bp, 1, none⟩ = some (.int .i64 x.1.2) := fun W' h => (bP.keep h).cell 1
        have fM0 : ∀ W', G W W' → W'.cell? ⟨w.heap.size, 0, none⟩ = some (.int .i64 north) := fun W' h => (b1.keep h).cell 0
        have fM1 : ∀ W', G W W' → W'.cell? ⟨w.heap.size, 1, none⟩ = some (.int .i64 cols) := fun W' h => (b1.keep h).cell 1
        have fM2 : ∀ W', G W W' → W'.cell? ⟨w.heap.size, 2, none⟩ = some (.slice ea east.length ec) := fun W' h => (b1.keep h).cell 2
        have fM3 : ∀ W', G W W' → W'.cell? ⟨w.heap.size, 3, none⟩ = some (.int .i64 lofts) := fun W' h => (b1.keep h).cell 3
        have fM4 : ∀ W', G W W' → W'.cell? ⟨w.heap.size, 4, none⟩ = some (.slice sa svs.length sc) := fun W' h => (b1.keep h).cell 4
        have fM5 : ∀ W', G W W' → W'.cell? ⟨w.heap.size, 5, none⟩ = some (.int .i64 wrong) := fun W' h => (b1.keep h).cell 5
        have fL : ∀ W', G W W' → W'.cell? ⟨wk.heap.size, 0, none⟩ = some (.int .i64 k) := fun W' h => (b4.keep h).cell 0
        refine wpAnyH_take (i := 0) (v := ?_) rfl (by kernel_rfl) (by kernel_rfl) (by kernel_rfl) (fun _ _ _ h => h) (Or.inl ⟨by rfl, ?_⟩) (by assumption) ?_
        rotate_left
        · intro w' hSw; go_simp; with_reducible rfl
        simp only [Act.put, List.setIfInBounds_toArray, List.set_cons_zero, List.set_cons_succ]
        refine wpAnyH_take (i := 1) (v := ?_) rfl (by kernel_rfl) (by kernel_rfl) (by kernel_rfl) (fun _ _ _ h => h) (Or.inl ⟨by rfl, ?_⟩) (by assumption) ?_
        rotate_left
        · intro w' hSw; go_simp; with_reducible rfl
        simp only [Act.put, List.setIfInBounds_toArray, List.set_cons_zero, List.set_cons_succ]
        refine wpAnyH_take (i := 2) (v := ?_) rfl (by kernel_rfl) (by kernel_rfl) (by kernel_rfl) (fun _ _ _ h => h) (Or.inl ⟨by rfl, ?_⟩) (by assumption) ?_
        rotate_left
        · intro w' hSw; go_simp; with_reducible rfl
        simp only [Act.put, List.setIfInBounds_toArray, List.set_cons_zero, List.set_cons_succ]
        refine wpAnyH_take (i := 3) (v := ?_) rfl (by kernel_rfl) (by kernel_rfl) (by kernel_rfl) (fun _ _ _ h => h) (Or.inl ⟨by rfl, ?_⟩) (by assumption) ?_
        rotate_left
        · intro w' hSw; go_simp; with_reducible rfl
        simp only [Act.put, List.setIfInBounds_toArray, List.set_cons_zero, List.set_cons_succ]
        have hGW : G w W := ((G.fr hG).t hf).toG (fun i hi h => by omega)
        have hWA := fun (W' : World) (hW' : G W W') => wrongAt_any north cols lofts wrong k x.1.1 x.1.2 east svs ea sa ec sc W' (he.below (hGW.t hW')) (hs0.below (hGW.t hW')) hl2 hv hso (by have h1 := x.2.1; have h2 := x.2.2; simp [isPlaceB, isInB]; omega)
        refine wpAnyH_ready (rs := [4, 6]) (by kernel_rfl) (by simp) ?_
        refine AllReadyH.cons rfl (fun K1 hK1 => ?_) (AllReadyH.cons rfl (fun K1 hK1 => ?_) AllReadyH.nil)
        go_simp
        refine (hWA _ (G.rf W).d).mono ?_
        rintro e w2 ⟨rfl, hG2⟩
        have hS2 : G W w2 := (G.rf W).d.t hG2
        refine hK1.out _ _ hS2 (fun _ => ?_)
        try simp only [Act.put, List.setIfInBounds_toArray, List.set_cons_zero, List.set_cons_succ]
        refine wpAnyH_take (i := 5) (v := ?_) rfl (by kernel_rfl) (by kernel_rfl) (by kernel_rfl) (fun _ _ _ h => h) (Or.inl ⟨by rfl, ?_⟩) (by assumption) ?_
        rotate_left
        · intro w' hSw; go_simp; with_reducible rfl
        try simp only [Act.put, List.setIfInBounds_toArray, List.set_cons_zero, List.set_cons_succ]
        refine wpAnyH_ready (rs := [6]) (by kernel_rfl) (by simp) ?_
        refine AllReadyH.cons rfl (fun K2 hK2 => ?_) AllReadyH.nil
        go_simp
        refine hK2.out _ _ (hS2.a _) (fun _ => ?_)
        try simp only [Act.put, List.setIfInBounds_toArray, List.set_cons_zero, List.set_cons_succ]
        refine wpAnyH_ready (rs := [7]) (by kernel_rfl) (by simp) ?_
        refine AllReadyH.cons rfl (fun K3 hK3 => ?_) AllReadyH.nil
        go_simp
        have bS := Blk.new w2 120 #[.int .i64 x.1.1, .int .i64 x.1.2, .int .i64 (wrongN north east svs k x.1.1 x.1.2)]
        have hS3 : G W (w2.alloc (.cells #[.int .i64 x.1.1, .int .i64 x.1.2, .int .i64 (wrongN north east svs k x.1.1 x.1.2)] 120)) := hS2.a _
        have hSb : W.heap.size ≤ w2.heap.size := hS2.size
        generalize w2.alloc (.cells #[.int .i64 x.1.1, .int .i64 x.1.2, .int .i64 (wrongN north east svs k x.1.1 x.1.2)] 120) = W3 at *
        generalize w2.heap.size = Sb at *
        refine hK3.out _ _ hS3 (fun _ => ?_)
        rotate_left
        go_simp
        refine hK1.out _ _ ((G.rf W).d.a _) (fun _ => ?_)
        try simp only [Act.put, List.setIfInBounds_toArray, List.set_cons_zero, List.set_cons_succ]
        refine wpAnyH_ready (rs := [4]) (by kernel_rfl) (by simp) ?_
        refine AllReadyH.cons rfl (fun K2 hK2 => ?_) AllReadyH.nil
        go_simp
        refine (hWA _ ((G.rf W).d.a _)).mono ?_
        rintro e w2 ⟨rfl, hG2⟩
        have hS2 : G W w2 := ((G.rf W).d.a _).t hG2
        have bZ : Blk w2 W.heap.size 120 #[.int .i64 0, .int .i64 0, .int .i64 0] := (Blk.new W.drew 120 #[.int .i64 0, .int .i64 0, .int .i64 0]).keep hG2
        refine hK2.out _ _ hS2 (fun _ => ?_)
        try simp only [Act.put, List.setIfInBounds_toArray, List.set_cons_zero, List.set_cons_succ]
        refine wpAnyH_take (i := 5) (v := ?_) rfl (by kernel_rfl) (by kernel_rfl) (by kernel_rfl) (fun _ _ _ h => h) (Or.inl ⟨by rfl, ?_⟩) (by assumption) ?_
        rotate_left
        · intro w' hSw; go_simp; with_reducible rfl
        try simp only [Act.put, List.setIfInBounds_toArray, List.set_cons_zero, List.set_cons_succ]
        have z0 := bZ.cell 0
        have z1 := bZ.cell 1
        have z2 := bZ.cell 2
        have y0 := bZ.frozen 0
        have y1 := bZ.frozen 1
        have y2 := bZ.frozen 2
        refine wpAnyH_ready (rs := [7]) (by kernel_rfl) (by simp) ?_
        refine AllReadyH.cons rfl (fun K3 hK3 => ?_) AllReadyH.nil
        go_simp
        have bS : Blk (((w2.setCell ⟨W.heap.size, 0, none⟩ (.int .i64 x.1.1)).setCell ⟨W.heap.size, 1, none⟩ (.int .i64 x.1.2)).setCell ⟨W.heap.size, 2, none⟩ (.int .i64 (wrongN north east svs k x.1.1 x.1.2))) W.heap.size 120 #[.int .i64 x.1.1, .int .i64 x.1.2, .int .i64 (wrongN north east svs k x.1.1 x.1.2)] := ((bZ.set_ 0 _).set_ 1 _).set_ 2 _
        have hS3 : G W (((w2.setCell ⟨W.heap.size, 0, none⟩ (.int .i64 x.1.1)).setCell ⟨W.heap.size, 1, none⟩ (.int .i64 x.1.2)).setCell ⟨W.heap.size, 2, none⟩ (.int .i64 (wrongN north east svs k x.1.1 x.1.2))) := ((hS2.s (Nat.le_refl _) _).s (Nat.le_refl _) _).s (Nat.le_refl _) _
        have hSb : W.heap.size ≤ W.heap.size := Nat.le_refl _
        generalize (((w2.setCell ⟨W.heap.size, 0, none⟩ (.int .i64 x.1.1)).setCell ⟨W.heap.size, 1, none⟩ (.int .i64 x.1.2)).setCell ⟨W.heap.size, 2, none⟩ (.int .i64 (wrongN north east svs k x.1.1 x.1.2))) = W3 at *
        obtain ⟨Sb, hSe⟩ : ∃ Sb, Sb = W.heap.size := ⟨_, rfl⟩
        rw [← hSe] at bS ⊢
        have hSb : W.heap.size ≤ Sb := by omega
        clear hSe bZ z0 z1 z2 y0 y1 y2
        refine hK3.out _ _ hS3 (fun _ => ?_)
        all_goals
          refine wpAnyH_done (by kernel_rfl) ?_ _
          have bV3 := b3.keep hS3
          have bL3 := b4.keep hS3
          have bO3 := b2.keep hS3
          have bF3 := b5.keep hS3
          have hr3 : W3.ownsRow (wk.heap.size + 3) 120 3 v (pre.map (·.1)).length (spotCells (rawSpots north east svs k (pre.map (·.1)))) := ownsRow_G hr hS3
          clear hK1 hK2 hK3 K1 K2 K3 fP0 fP1 fM0 fM1 fM2 fM3 fM4 fM5 fL hWA hS hrec
          gi_wp2
          refine wpIn_region_Z (l := some l) (S := S9 w wk W3 Sb k x.1 (wrongN north east svs k x.1.1 x.1.2) (oc north cols (.slice ea east.length ec) lofts (.slice sa svs.length sc) wrong (fewSum north cols east svs k) (upd slv k v))) 14 15 rfl (by kernel_rfl) (fun ⟨_, _, h⟩ => h) (by kernel_rfl) ⟨bV3, bL3, bO3, bS⟩ (fun hS => ?_)
          have hk8 : k < 8 := by omega
          have hk8' : (k : Int) < 8 := by omega
          have f9V := fun W' (h : S9 w wk W3 Sb k x.1 (wrongN north east svs k x.1.1 x.1.2) (oc north cols (.slice ea east.length ec) lofts (.slice sa svs.length sc) wrong (fewSum north cols east svs k) (upd slv k v)) W') => h.1.cell 0
          have f9L := fun W' (h : S9 w wk W3 Sb k x.1 (wrongN north east svs k x.1.1 x.1.2) (oc north cols (.slice ea east.length ec) lofts (.slice sa svs.length sc) wrong (fewSum north cols east svs k) (upd slv k v)) W') => h.2.1.cell 0
          have f9O : ∀ W', S9 w wk W3 Sb k x.1 (wrongN north east svs k x.1.1 x.1.2) (oc north cols (.slice ea east.length ec) lofts (.slice sa svs.length sc) wrong (fewSum north cols east svs k) (upd slv k v)) W' → W'.cell? ⟨w.heap.size + 1, 7 + k, none⟩ = some v :=
            fun W' h => (h.2.2.1.cell (7 + k)).trans ((oc_get hk8).trans (by simp [upd]))
          have f9S0 := fun W' (h : S9 w wk W3 Sb k x.1 (wrongN north east svs k x.1.1 x.1.2) (oc north cols (.slice ea east.length ec) lofts (.slice sa svs.length sc) wrong (fewSum north cols east svs k) (upd slv k v)) W') => h.2.2.2.cell 0
          have f9S1 := fun W' (h : S9 w wk W3 Sb k x.1 (wrongN north east svs k x.1.1 x.1.2) (oc north cols (.slice ea east.length ec) lofts (.slice sa svs.length sc) wrong (fewSum north cols east svs k) (upd slv k v)) W') => h.2.2.2.cell 1
          have f9S2 := fun W' (h : S9 w wk W3 Sb k x.1 (wrongN north east svs k x.1.1 x.1.2) (oc north cols (.slice ea east.length ec) lofts (.slice sa svs.length sc) wrong (fewSum north cols east svs k) (upd slv k v)) W') => h.2.2.2.cell 2
          refine wpAnyZ_take (i := 0) (v := ?_) rfl (by kernel_rfl) (by kernel_rfl) (by kernel_rfl) (by kernel_rfl) (fun _ _ _ h => h) (Or.inl ⟨by rfl, ?_⟩) (by assumption) ?_
          rotate_left
          · intro w' hSw; go_simp; with_reducible rfl
          try simp only [Act.put, List.setIfInBounds_toArray, List.set_cons_zero, List.set_cons_succ]
          refine wpAnyZ_take (i := 1) (v := ?_) rfl (by kernel_rfl) (by kernel_rfl) (by kernel_rfl) (by kernel_rfl) (fun _ _ _ h => h) (Or.inl ⟨by rfl, ?_⟩) (by assumption) ?_
          rotate_left
          · intro w' hSw; go_simp; with_reducible rfl
          try simp only [Act.put, List.setIfInBounds_toArray, List.set_cons_zero, List.set_cons_succ]
          refine wpAnyZ_take (i := 2) (v := ?_) rfl (by kernel_rfl) (by kernel_rfl) (by kernel_rfl) (by kernel_rfl) (fun _ _ _ h => h) (Or.inl ⟨by rfl, ?_⟩) (by assumption) ?_
          rotate_left
          · intro w' hSw; go_simp; with_reducible rfl
          try simp only [Act.put, List.setIfInBounds_toArray, List.set_cons_zero, List.set_cons_succ]
          refine wpAnyZ_take (i := 3) (v := ?_) rfl (by kernel_rfl) (by kernel_rfl) (by kernel_rfl) (by kernel_rfl) (fun _ _ _ h => h) (Or.inl ⟨by rfl, ?_⟩) (by assumption) ?_
          rotate_left
          · intro w' hSw; go_simp; with_reducible rfl
          try simp only [Act.put, List.setIfInBounds_toArray, List.set_cons_zero, List.set_cons_succ]
          refine wpAnyZ_take (i := 4) (v := ?_) rfl (by kernel_rfl) (by kernel_rfl) (by kernel_rfl) (by kernel_rfl) (fun _ _ _ h => h) (Or.inl ⟨by rfl, ?_⟩) (by assumption) ?_
          rotate_left
          · intro w' hSw; go_simp; with_reducible rfl
          try simp only [Act.put, List.setIfInBounds_toArray, List.set_cons_zero, List.set_cons_succ]
          refine wpAnyZ_take (i := 5) (v := ?_) rfl (by kernel_rfl) (by kernel_rfl) (by kernel_rfl) (by kernel_rfl) (fun _ _ _ h => h) (Or.inl ⟨by rfl, ?_⟩) (by assumption) ?_
          rotate_left
          · intro w' hSw; go_simp; with_reducible rfl
          try simp only [Act.put, List.setIfInBounds_toArray, List.set_cons_zero, List.set_cons_succ]
          refine wpAnyZ_take (i := 6) (v := ?_) rfl (by kernel_rfl) (by kernel_rfl) (by kernel_rfl) (by kernel_rfl) (fun _ _ _ h => h) (Or.inl ⟨by rfl, ?_⟩) (by assumption) ?_
          rotate_left
          · intro w' hSw; go_simp; with_reducible rfl
          try simp only [Act.put, List.setIfInBounds_toArray, List.set_cons_zero, List.set_cons_succ]
          refine wpAnyZ_take (i := 7) (v := ?_) rfl (by kernel_rfl) (by kernel_rfl) (by kernel_rfl) (by kernel_rfl) (fun _ _ _ h => h) (Or.inl ⟨by rfl, ?_⟩) (by assumption) ?_
          rotate_left
          · intro w' hSw; go_simp; with_reducible rfl
          try simp only [Act.put, List.setIfInBounds_toArray, List.set_cons_zero, List.set_cons_succ]
          refine wpAnyZ_take (i := 8) (v := ?_) rfl (by kernel_rfl) (by kernel_rfl) (by kernel_rfl) (by kernel_rfl) (fun _ _ _ h => h) (Or.inl ⟨by rfl, ?_⟩) (by assumption) ?_
          rotate_left
          · intro w' hSw; go_simp; with_reducible rfl
          try simp only [Act.put, List.setIfInBounds_toArray, List.set_cons_zero, List.set_cons_succ]
          refine wpAnyZ_take (i := 11) (v := ?_) rfl (by kernel_rfl) (by kernel_rfl) (by kernel_rfl) (by kernel_rfl) (fun _ _ _ h => h) (Or.inl ⟨by rfl, ?_⟩) (by assumption) ?_
          rotate_left
          · intro w' hSw; go_simp; with_reducible rfl
          try simp only [Act.put, List.setIfInBounds_toArray, List.set_cons_zero, List.set_cons_succ]
          refine wpAnyZ_take (i := 12) (v := ?_) rfl (by kernel_rfl) (by kernel_rfl) (by kernel_rfl) (by kernel_rfl) (fun _ _ _ h => h) (Or.inl ⟨by rfl, ?_⟩) (by assumption) ?_
          rotate_left
          · intro w' hSw; go_simp; with_reducible rfl
          try simp only [Act.put, List.setIfInBounds_toArray, List.set_cons_zero, List.set_cons_succ]
          refine wpAnyZ_one (i := 9) (by kernel_rfl) rfl (fun K4 hK4 => ?_)
          go_simp
          refine hK4.out _ _ (fun _ => ⟨bV3.alloc _, bL3.alloc _, bO3.alloc _, bS.alloc _⟩) (fun _ => ?_)
          try simp only [Act.put, List.setIfInBounds_toArray, List.set_cons_zero, List.set_cons_succ]
          refine wpAnyZ_one (i := 10) (by kernel_rfl) rfl (fun K5 hK5 => ?_)
          obtain ⟨i0, hi0, hz0, hz1, hz2⟩ := info_parts info120
          have hlen : (pre.map (·.1)).length + 1 ≤ 100 := by
            have h1 : pre.length < east.length * cols := hN
            have h2 : east.length * cols ≤ 10 * 10 := Nat.mul_le_mul hr10 hc10
            simp; omega
          refine step_append_lies _ (by rfl) _ _ 88 (by rfl) (wk.heap.size + 3) 120 i0 _ 3 24 Try.underlying88 hi0 hz0 hz1 hz2 rfl (by omega) v _ _ (by rfl) (hr3.alloc _).drew ⟨W3.heap.size, 0, none⟩ 1 1
            [.int .i64 x.1.1, .int .i64 x.1.2, .int .i64 (wrongN north east svs k x.1.1 x.1.2)] (by rfl) (by rfl) (World.news_of_block (cs := #[.int .i64 x.1.1, .int .i64 x.1.2, .int .i64 (wrongN north east svs k x.1.1 x.1.2)]) (t := 120) (fr := (0, 0)) (heap_alloc_new W3 _)) (by simp [Value.oneCell'])
            (by omega) (by unfold maxLen; omega) (by omega) (by have := hf.size; have := hS3.size; simp; omega) (W3.heap.size + 1) (by simp) ?_
          intro gg cap w5 hown5 hgrow5 hat5 hlt5
          have bV5 := (bV3.alloc _).dr.grown hgrow5 (own_ne hr3 bV3 (by decide))
          have bL5 := (bL3.alloc _).dr.grown hgrow5 (own_ne hr3 bL3 (by decide))
          have bO5 := (bO3.alloc _).dr.grown hgrow5 (own_ne hr3 bO3 (by decide))
          have bF5 := (bF3.alloc _).dr.grown hgrow5 (own_ne hr3 bF3 (by decide))
          have bS5 := (bS.alloc _).dr.grown hgrow5 (own_far hr hSb)
          have c5 : w5.cell? ⟨w.heap.size + 1, 7 + k, none⟩ = some v := (bO5.cell (7 + k)).trans ((oc_get hk8).trans (by simp [upd]))
          have z5 : w5.frozen? ⟨w.heap.size + 1, 7 + k, none⟩ = false := bO5.frozen (7 + k)
          have hS5 : S9 w wk W3 Sb k x.1 (wrongN north east svs k x.1.1 x.1.2) (oc north cols (.slice ea east.length ec) lofts (.slice sa svs.length sc) wrong (fewSum north cols east svs k) (upd slv k v)) w5 := ⟨bV5, bL5, bO5, bS5⟩
          refine hK5.out _ _ (fun _ => hS5) (fun _ => ?_)
          try simp only [Act.put, List.setIfInBounds_toArray, List.set_cons_zero, List.set_cons_succ]
          refine wpAnyZ_take (i := 13) (v := ?_) rfl (by kernel_rfl) (by kernel_rfl) (by kernel_rfl) (by kernel_rfl) (fun _ _ _ h => h) (Or.inl ⟨by rfl, ?_⟩) (by assumption) ?_
          rotate_left
          · intro w' hSw; go_simp; with_reducible rfl
          try simp only [Act.put, List.setIfInBounds_toArray, List.set_cons_zero, List.set_cons_succ]
          refine wpAnyZ_one (i := 14) (by kernel_rfl) rfl (fun K6 hK6 => ?_)
          go_simp
          refine hK6.out _ _ (fun h => absurd rfl h) (fun _ => ?_)
          refine wpAnyZ_done (by kernel_rfl) ?_ _
          clear hK4 hK5 hK6 K4 K5 K6 f9V f9L f9O f9S0 f9S1 f9S2 hS hS5 c5 z5
          have lO := bO.lt
          have sW := hf.size
          have bF6 := bF5.far (p := ⟨w.heap.size + 1, 7 + k, none⟩) (by simp; omega) (.slice (some ⟨gg, 0, none⟩) ((pre.map (·.1)).length + 1) cap)
          have bS6 := bS5.far (p := ⟨w.heap.size + 1, 7 + k, none⟩) (by simp; omega) (.slice (some ⟨gg, 0, none⟩) ((pre.map (·.1)).length + 1) cap)
          have bV6 := bV5.far (p := ⟨w.heap.size + 1, 7 + k, none⟩) (by simp) (.slice (some ⟨gg, 0, none⟩) ((pre.map (·.1)).length + 1) cap)
          have bL6 := bL5.far (p := ⟨w.heap.size + 1, 7 + k, none⟩) (by simp; omega) (.slice (some ⟨gg, 0, none⟩) ((pre.map (·.1)).length + 1) cap)
          have bO6 := bO5.set_ (7 + k) (.slice (some ⟨gg, 0, none⟩) ((pre.map (·.1)).length + 1) cap)
          rw [oc_set hk8, upd_upd] at bO6
          have hown6 := hown5.kept (grownBy_set w5 ⟨w.heap.size + 1, 7 + k, none⟩ (.slice (some ⟨gg, 0, none⟩) ((pre.map (·.1)).length + 1) cap)) (.inr (own_ne hown5 bO5 (by decide)).symm)
          have bM6 := ((((b1.keep hS3).alloc _).dr).grown hgrow5 (own_ne hr3 (b1.keep hS3) (by decide))).far (p := ⟨w.heap.size + 1, 7 + k, none⟩) (by simp) (.slice (some ⟨gg, 0, none⟩) ((pre.map (·.1)).length + 1) cap)
          have fr6 : Fr (fun i => i = w.heap.size + 1 ∨ v.ownBlock = some i) W (w5.setCell ⟨w.heap.size + 1, 7 + k, none⟩ (.slice (some ⟨gg, 0, none⟩) ((pre.map (·.1)).length + 1) cap)) :=
            ((((Fr.rf _ W).g hS3).a _).d.grown hgrow5 (fun g e => .inl (.inr e))).s (.inl (.inl rfl)) _
          have e1 : (pre.map (·.1)).length = pre.length := by simp
          rw [e1] at bF6 bS6 bV6 bL6 bO6 hown6 bM6 fr6
          generalize w5.setCell ⟨w.heap.size + 1, 7 + k, none⟩ (.slice (some ⟨gg, 0, none⟩) (pre.length + 1) cap) = w6 at *
          have d0 := bF6.cell 0
          have d1 := bS6.cell 2
          have d2 := bF6.frozen 0
          gi_wp2
          have sS := hS3.size
          have hB3 : ∀ i, v.ownBlock = some i → wk.heap.size + 3 ≤ i := fun i h => own_base hr h
          have hlow : (min (lowC north east svs k (pre.map (·.1)) : Int) (wrongN north east svs k x.1.1 x.1.2)) = ((lowC north east svs k ((pre ++ [x]).map (·.1)) : Nat) : Int) := by
            rw [List.map_append, List.map_singleton, lowC_snoc]
            unfold cost
            omega
          rw [hlow]
          have fr7 : Fr (fun i => (i = w.heap.size + 1 ∨ v.ownBlock = some i) ∨ i = wk.heap.size + 1) W (w6.setCell ⟨wk.heap.size + 1, 0, none⟩ (.int .i64 ((lowC north east svs k ((pre ++ [x]).map (·.1)) : Nat) : Int))) :=
            (fr6.mono (fun i _ h => .inl h)).s (.inl (.inr rfl)) _
          refine ⟨fr7.keeps ?_ _, fr7.kb (by omega) ?_, ?_⟩
          · rintro i ((rfl | h) | rfl) _
            · exact ⟨_, _, _, b2⟩
            · exact own_cells hr h
            · exact ⟨_, _, _, b5⟩
          · rintro ((h | h) | h)
            · omega
            · have := hB3 _ h; omega
            · omega
          · refine ⟨.slice (some ⟨gg, 0, none⟩) (pre.length + 1) cap, bM6.far (by simp; omega) _, bO6.far (by simp; omega) _, bV6.far (by simp; omega) _, bL6.far (by simp) _, bF6.set_ 0 _, ?_, ?_, ?_⟩
            · have h7 := hown6.kept (grownBy_set w6 ⟨wk.heap.size + 1, 0, none⟩ (.int .i64 ((lowC north east svs k ((pre ++ [x]).map (·.1)) : Nat) : Int))) (.inr (own_ne hown6 bF6 (by decide)).symm)
              have e2 : spotCells (rawSpots north east svs k ((pre ++ [x]).map (·.1))) = spotCells (rawSpots north east svs k (pre.map (·.1))) ++ [.int .i64 x.1.1, .int .i64 x.1.2, .int .i64 (wrongN north east svs k x.1.1 x.1.2)] := by
                simp [rawSpots, spotCells, cost]
              rw [e2]
              simpa using h7
            · exact ⟨fr7.os.trans hf.os, fr7.tape.trans hf.tape, fr7.output.trans hf.output, Nat.le_trans hf.size fr7.size, fun i hi hn => (fr7.block i (by omega) (by
                rintro ((h | h) | h)
                · exact hn h
                · have := hB3 _ h; omega
                · omega)).trans (hf.block i hi hn)⟩
            · exact Nat.le_trans hs fr7.size
      case done =>
        rintro D ys W hD hys ⟨v, b1, b2, b3, b4, b5, hr, hf, hs⟩ hDef
        rw [hys] at hr b5
        have hbd := vm_bounds hv
        have hN1 : 1 ≤ (allP cols east.length).length := by
          rw [allP_len]; exact Nat.mul_le_mul (show 1 ≤ east.length by omega) (show 1 ≤ cols by omega)
        have hN2 : (allP cols east.length).length ≤ 100 := by
          rw [allP_len]; exact Nat.mul_le_mul hr10 hc10
        clear hbd
        have hrl : (rawSpots north east svs k (allP cols east.length)).length = (allP cols east.length).length := by simp [rawSpots]
        have hml : ∀ s ∈ rawSpots north east svs k (allP cols east.length), lowC north east svs k (allP cols east.length) ≤ s.more ∧ s.more ≤ 16 := rawSpots_low north cols lofts east svs k hl2 (allP cols east.length)
        have hso' : spotsOf north cols east svs k = (rawSpots north east svs k (allP cols east.length)).map (subM (lowC north east svs k (allP cols east.length))) := by simp [spotsOf, rawSpots, subM]
        have hfs : fewSum north cols east svs (k + 1) = fewSum north cols east svs k + lowC north east svs k (allP cols east.length) := by simp [fewSum, List.range_succ]
        have HSO := Lib.hid hso'
        have HFS := Lib.hid hfs
        clear hso' hfs
        have hmn : lowC north east svs k (allP cols east.length) ≤ 16 := lowC_le _ _ _ _ _ hl2
        have hspl : ∀ j, (spotsOf north cols east svs j).length = (allP cols east.length).length := fun j => by simp [spotsOf]
        generalize lowC north east svs k (allP cols east.length) = mn at hmn hr b5 hml HSO HFS
        generalize rawSpots north east svs k (allP cols east.length) = raw at hr hrl hml HSO
        generalize (allP cols east.length).length = N at hspl hr hrl hN1 hN2
        have hk8 : k < 8 := by omega
        have hk8' : (k : Int) < 8 := by omega
        obtain ⟨gg, cap, rfl⟩ : ∃ g cap, v = .slice (some ⟨g, 0, none⟩) N cap := by
          rcases hr.2 with ⟨_, h0⟩ | ⟨g, cap, _, rfl, _⟩
          · omega
          · exact ⟨g, cap, rfl⟩
        have aV := b3.gw 0 rfl
        have aL := b4.gw 0 rfl
        have aO := b2.gw (7 + k) ((oc_get hk8).trans (by simp [upd] : _ = some (.slice (some ⟨gg, 0, none⟩) N cap)))
        gi_wp2
        refine wpIn_region_quiet_GR (l := none) (by kernel_rfl) (fun ⟨_, _, h⟩ => by cases h.1) (by kernel_rfl) (by kernel_rfl) ?_
        repeat (quiet_step (fail))
        refine wpQuiet_nil ?_
        intro _ hw'
        obtain ⟨y, rfl⟩ := hw'
        clear aV aL aO
        have gy := y.g
        have hDef' : y.w.heap[D]? = some (.deferred (some [])) := (gy.block D (Array.getElem?_eq_some_iff.1 hDef).1).trans hDef
        replace b1 := b1.keep gy
        replace b2 := b2.keep gy
        replace b3 := b3.keep gy
        replace b4 := b4.keep gy
        replace b5 := b5.keep gy
        replace hr := ownsRow_G hr gy
        replace hf := hf.g gy
        replace hs := Nat.le_trans hs gy.size
        clear hDef gy
        generalize y.w = W8 at *
        clear y
        gi_wp2
        have bOV : gg ≠ w.heap.size + 1 := by
          have h1 := own_base hr (g := gg) rfl
          have h2 := bO.lt
          omega
        have hgB := own_base hr (g := gg) rfl
        have hgL := (hr.lt gg rfl).2
        gi_loopw [54] (fun i W' => ∃ q : Nat, q ≤ N ∧ i = .int .i64 q ∧ OpenRow2 (w.heap.size + 1 + 1) wk.heap.size (w.heap.size + 1) (wk.heap.size + 1) gg N cap W8 (oc north cols (.slice ea east.length ec) lofts (.slice sa svs.length sc) wrong (fewSum north cols east svs k) (upd slv k (.slice (some ⟨gg, 0, none⟩) N cap))) k mn (mixL raw mn q) W') (fun i _ => N - (intOf i).toNat)
        case atStart => exact ⟨0, Nat.zero_le _, rfl, b3, b4, b2, b5, by simpa [mixL] using hr, Fr.rf _ _⟩
        case round =>
          rename_i W' _
          obtain ⟨q, hq, rfl, r3, r4, r2, r5, rr, rf⟩ := hrel
          by_cases hql : q < N
          · have hqi : (q : Int) < N := by omega
            obtain ⟨hget, hset⟩ := mixL_at raw mn q (by omega)
            have hsm := hml _ (show raw.getD q default ∈ raw by simp [show q < raw.length by omega])
            generalize raw.getD q default = s at hget hset hsm
            have cG : wr.cell? ⟨gg, q * 3 + 2, none⟩ = some (.int .i64 s.more) := (rr.cellAt (q * 3 + 2) (by omega)).trans hget
            have zG : wr.frozen? ⟨gg, q * 3 + 2, none⟩ = false := rr.frozenAt _
            have hst := rr.stored (q * 3 + 2) (.int .i64 ((s.more - mn : Nat) : Int))
            rw [hset] at hst
            have HST := Lib.hid hst
            clear hst hget hset
            have hw1 : IntKind.i64.wrap ((s.more : Int) - mn) = ((s.more - mn : Nat) : Int) := by
              rw [IntWalk.i64_in _ (by omega)]; omega
            gi_wp2
            refine wpIn_region_Z (l := none) (S := S14 (w.heap.size + 1 + 1) wk.heap.size (w.heap.size + 1) (wk.heap.size + 1) gg q s.more (oc north cols (.slice ea east.length ec) lofts (.slice sa svs.length sc) wrong (fewSum north cols east svs k) (upd slv k (.slice (some ⟨gg, 0, none⟩) N cap))) k mn) 14 15 rfl (by kernel_rfl) (fun ⟨_, _, h⟩ => by cases h.1) (by kernel_rfl) ⟨r3, r4, r2, r5, cG⟩ (fun hS => ?_)
            have f1 := fun W' (h : S14 (w.heap.size + 1 + 1) wk.heap.size (w.heap.size + 1) (wk.heap.size + 1) gg q s.more (oc north cols (.slice ea east.length ec) lofts (.slice sa svs.length sc) wrong (fewSum north cols east svs k) (upd slv k (.slice (some ⟨gg, 0, none⟩) N cap))) k mn W') => h.1.cell 0
            have f2 := fun W' (h : S14 (w.heap.size + 1 + 1) wk.heap.size (w.heap.size + 1) (wk.heap.size + 1) gg q s.more (oc north cols (.slice ea east.length ec) lofts (.slice sa svs.length sc) wrong (fewSum north cols east svs k) (upd slv k (.slice (some ⟨gg, 0, none⟩) N cap))) k mn W') => h.2.1.cell 0
            have f3 : ∀ W', S14 (w.heap.size + 1 + 1) wk.heap.size (w.heap.size + 1) (wk.heap.size + 1) gg q s.more (oc north cols (.slice ea east.length ec) lofts (.slice sa svs.length sc) wrong (fewSum north cols east svs k) (upd slv k (.slice (some ⟨gg, 0, none⟩) N cap))) k mn W' → W'.cell? ⟨w.heap.size + 1, 7 + k, none⟩ = some (.slice (some ⟨gg, 0, none⟩) N cap) := fun W' h => (h.2.2.1.cell (7 + k)).trans ((oc_get hk8).trans (by simp [upd]))
            have f4 := fun W' (h : S14 (w.heap.size + 1 + 1) wk.heap.size (w.heap.size + 1) (wk.heap.size + 1) gg q s.more (oc north cols (.slice ea east.length ec) lofts (.slice sa svs.length sc) wrong (fewSum north cols east svs k) (upd slv k (.slice (some ⟨gg, 0, none⟩) N cap))) k mn W') => h.2.2.2.1.cell 0
            have f5 := fun W' (h : S14 (w.heap.size + 1 + 1) wk.heap.size (w.heap.size + 1) (wk.heap.size + 1) gg q s.more (oc north cols (.slice ea east.length ec) lofts (.slice sa svs.length sc) wrong (fewSum north cols east svs k) (upd slv k (.slice (some ⟨gg, 0, none⟩) N cap))) k mn W') => h.2.2.2.2
            refine wpAnyZ_take (i := 0) (v := ?_) rfl (by kernel_rfl) (by kernel_rfl) (by kernel_rfl) (by kernel_rfl) (fun _ _ _ h => h) (Or.inl ⟨by rfl, ?_⟩) (by assumption) ?_
            rotate_left
            · intro w' hSw; go_simp; with_reducible rfl
            try simp only [Act.put, List.setIfInBounds_toArray, List.set_cons_zero, List.set_cons_succ]
            refine wpAnyZ_take (i := 1) (v := ?_) rfl (by kernel_rfl) (by kernel_rfl) (by kernel_rfl) (by kernel_rfl) (fun _ _ _ h => h) (Or.inl ⟨by rfl, ?_⟩) (by assumption) ?_
            rotate_left
            · intro w' hSw; go_simp; with_reducible rfl
            try simp only [Act.put, List.setIfInBounds_toArray, List.set_cons_zero, List.set_cons_succ]
            refine wpAnyZ_take (i := 2) (v := ?_) rfl (by kernel_rfl) (by kernel_rfl) (by kernel_rfl) (by kernel_rfl) (fun _ _ _ h => h) (Or.inl ⟨by rfl, ?_⟩) (by assumption) ?_
            rotate_left
            · intro w' hSw; go_simp; with_reducible rfl
            try simp only [Act.put, List.setIfInBounds_toArray, List.set_cons_zero, List.set_cons_succ]
            refine wpAnyZ_take (i := 3) (v := ?_) rfl (by kernel_rfl) (by kernel_rfl) (by kernel_rfl) (by kernel_rfl) (fun _ _ _ h => h) (Or.inl ⟨by rfl, ?_⟩) (by assumption) ?_
            rotate_left
            · intro w' hSw; go_simp; with_reducible rfl
            try simp only [Act.put, List.setIfInBounds_toArray, List.set_cons_zero, List.set_cons_succ]
            refine wpAnyZ_take (i := 4) (v := ?_) rfl (by kernel_rfl) (by kernel_rfl) (by kernel_rfl) (by kernel_rfl) (fun _ _ _ h => h) (Or.inl ⟨by rfl, ?_⟩) (by assumption) ?_
            rotate_left
            · intro w' hSw; go_simp; with_reducible rfl
            try simp only [Act.put, List.setIfInBounds_toArray, List.set_cons_zero, List.set_cons_succ]
            refine wpAnyZ_take (i := 5) (v := ?_) rfl (by kernel_rfl) (by kernel_rfl) (by kernel_rfl) (by kernel_rfl) (fun _ _ _ h => h) (Or.inl ⟨by rfl, ?_⟩) (by assumption) ?_
            rotate_left
            · intro w' hSw; go_simp; with_reducible rfl
            try simp only [Act.put, List.setIfInBounds_toArray, List.set_cons_zero, List.set_cons_succ]
            refine wpAnyZ_take (i := 6) (v := ?_) rfl (by kernel_rfl) (by kernel_rfl) (by kernel_rfl) (by kernel_rfl) (fun _ _ _ h => h) (Or.inl ⟨by rfl, ?_⟩) (by assumption) ?_
            rotate_left
            · intro w' hSw; go_simp; with_reducible rfl
            try simp only [Act.put, List.setIfInBounds_toArray, List.set_cons_zero, List.set_cons_succ]
            refine wpAnyZ_take (i := 7) (v := ?_) rfl (by kernel_rfl) (by kernel_rfl) (by kernel_rfl) (by kernel_rfl) (fun _ _ _ h => h) (Or.inl ⟨by rfl, ?_⟩) (by assumption) ?_
            rotate_left
            · intro w' hSw; go_simp; with_reducible rfl
            try simp only [Act.put, List.setIfInBounds_toArray, List.set_cons_zero, List.set_cons_succ]
            refine wpAnyZ_take (i := 8) (v := ?_) rfl (by kernel_rfl) (by kernel_rfl) (by kernel_rfl) (by kernel_rfl) (fun _ _ _ h => h) (Or.inl ⟨by rfl, ?_⟩) (by assumption) ?_
            rotate_left
            · intro w' hSw; go_simp; with_reducible rfl
            try simp only [Act.put, List.setIfInBounds_toArray, List.set_cons_zero, List.set_cons_succ]
            refine wpAnyZ_take (i := 9) (v := ?_) rfl (by kernel_rfl) (by kernel_rfl) (by kernel_rfl) (by kernel_rfl) (fun _ _ _ h => h) (Or.inl ⟨by rfl, ?_⟩) (by assumption) ?_
            rotate_left
            · intro w' hSw; go_simp; with_reducible rfl
            try simp only [Act.put, List.setIfInBounds_toArray, List.set_cons_zero, List.set_cons_succ]
            refine wpAnyZ_take (i := 10) (v := ?_) rfl (by kernel_rfl) (by kernel_rfl) (by kernel_rfl) (by kernel_rfl) (fun _ _ _ h => h) (Or.inl ⟨by rfl, ?_⟩) (by assumption) ?_
            rotate_left
            · intro w' hSw; go_simp; with_reducible rfl
            try simp only [Act.put, List.setIfInBounds_toArray, List.set_cons_zero, List.set_cons_succ]
            refine wpAnyZ_take (i := 11) (v := ?_) rfl (by kernel_rfl) (by kernel_rfl) (by kernel_rfl) (by kernel_rfl) (fun _ _ _ h => h) (Or.inl ⟨by rfl, ?_⟩) (by assumption) ?_
            rotate_left
            · intro w' hSw; go_simp; with_reducible rfl
            try simp only [Act.put, List.setIfInBounds_toArray, List.set_cons_zero, List.set_cons_succ]
            refine wpAnyZ_take (i := 12) (v := ?_) rfl (by kernel_rfl) (by kernel_rfl) (by kernel_rfl) (by kernel_rfl) (fun _ _ _ h => h) (Or.inl ⟨by rfl, ?_⟩) (by assumption) ?_
            rotate_left
            · intro w' hSw; go_simp; with_reducible rfl
            try simp only [Act.put, List.setIfInBounds_toArray, List.set_cons_zero, List.set_cons_succ]
            refine wpAnyZ_take (i := 13) (v := ?_) rfl (by kernel_rfl) (by kernel_rfl) (by kernel_rfl) (by kernel_rfl) (fun _ _ _ h => h) (Or.inl ⟨by rfl, ?_⟩) (by assumption) ?_
            rotate_left
            · intro w' hSw; go_simp; with_reducible rfl
            try simp only [Act.put, List.setIfInBounds_toArray, List.set_cons_zero, List.set_cons_succ]
            refine wpAnyZ_one (i := 14) (by kernel_rfl) rfl (fun K6 hK6 => ?_)
            go_simp
            refine hK6.out _ _ (fun h => absurd rfl h) (fun _ => ?_)
            refine wpAnyZ_done (by kernel_rfl) ?_ _
            gi_wp2
            have lV := bV.lt
            refine ⟨⟨q + 1, by omega, by simp, (r3.far (by simp; omega) _).dr, (r4.far (by simp; omega) _).dr, (r2.far (by simp; omega) _).dr, (r5.far (by simp; omega) _).dr, HST.out.1.drew, (rf.s (.inl rfl) _).d⟩, by simp [intOf]; omega⟩
          · obtain rfl : N = q := by omega
            have hfin : mixL raw mn N = spotsOf north cols east svs k := by rw [HSO.out]; simp [mixL, ← hrl]
            rw [hfin] at rr
            have hfs8 := fewSum_le north cols east svs k hl2
            have hw1 : IntKind.i64.wrap ((fewSum north cols east svs k : Int) + mn) = ((fewSum north cols east svs (k + 1) : Nat) : Int) := by
              rw [HFS.out, IntWalk.i64_in _ (by omega)]; omega
            gi_wp2
            refine wpIn_region_Z (l := none) (S := S16 (w.heap.size + 1 + 1) (w.heap.size + 1) (wk.heap.size + 1) (oc north cols (.slice ea east.length ec) lofts (.slice sa svs.length sc) wrong (fewSum north cols east svs k) (upd slv k (.slice (some ⟨gg, 0, none⟩) N cap))) mn) 8 9 rfl (by kernel_rfl) (fun ⟨_, _, h⟩ => by cases h.1) (by kernel_rfl) ⟨r3, r2, r5⟩ (fun hS => ?_)
            have f1 := fun W' (h : S16 (w.heap.size + 1 + 1) (w.heap.size + 1) (wk.heap.size + 1) (oc north cols (.slice ea east.length ec) lofts (.slice sa svs.length sc) wrong (fewSum north cols east svs k) (upd slv k (.slice (some ⟨gg, 0, none⟩) N cap))) mn W') => h.1.cell 0
            have f2 : ∀ W', S16 (w.heap.size + 1 + 1) (w.heap.size + 1) (wk.heap.size + 1) (oc north cols (.slice ea east.length ec) lofts (.slice sa svs.length sc) wrong (fewSum north cols east svs k) (upd slv k (.slice (some ⟨gg, 0, none⟩) N cap))) mn W' → W'.cell? ⟨w.heap.size + 1, 6, none⟩ = some (.int .i64 (fewSum north cols east svs k)) := fun W' h => h.2.1.cell 6
            have f3 := fun W' (h : S16 (w.heap.size + 1 + 1) (w.heap.size + 1) (wk.heap.size + 1) (oc north cols (.slice ea east.length ec) lofts (.slice sa svs.length sc) wrong (fewSum north cols east svs k) (upd slv k (.slice (some ⟨gg, 0, none⟩) N cap))) mn W') => h.2.2.cell 0
            refine wpAnyZ_take (i := 0) (v := ?_) rfl (by kernel_rfl) (by kernel_rfl) (by kernel_rfl) (by kernel_rfl) (fun _ _ _ h => h) (Or.inl ⟨by rfl, ?_⟩) (by assumption) ?_
            rotate_left
            · intro w' hSw; go_simp; with_reducible rfl
            try simp only [Act.put, List.setIfInBounds_toArray, List.set_cons_zero, List.set_cons_succ]
            refine wpAnyZ_take (i := 1) (v := ?_) rfl (by kernel_rfl) (by kernel_rfl) (by kernel_rfl) (by kernel_rfl) (fun _ _ _ h => h) (Or.inl ⟨by rfl, ?_⟩) (by assumption) ?_
            rotate_left
            · intro w' hSw; go_simp; with_reducible rfl
            try simp only [Act.put, List.setIfInBounds_toArray, List.set_cons_zero, List.set_cons_succ]
            refine wpAnyZ_take (i := 2) (v := ?_) rfl (by kernel_rfl) (by kernel_rfl) (by kernel_rfl) (by kernel_rfl) (fun _ _ _ h => h) (Or.inl ⟨by rfl, ?_⟩) (by assumption) ?_
            rotate_left
            · intro w' hSw; go_simp; with_reducible rfl
            try simp only [Act.put, List.setIfInBounds_toArray, List.set_cons_zero, List.set_cons_succ]
            refine wpAnyZ_take (i := 3) (v := ?_) rfl (by kernel_rfl) (by kernel_rfl) (by kernel_rfl) (by kernel_rfl) (fun _ _ _ h => h) (Or.inl ⟨by rfl, ?_⟩) (by assumption) ?_
            rotate_left
            · intro w' hSw; go_simp; with_reducible rfl
            try simp only [Act.put, List.setIfInBounds_toArray, List.set_cons_zero, List.set_cons_succ]
            refine wpAnyZ_take (i := 4) (v := ?_) rfl (by kernel_rfl) (by kernel_rfl) (by kernel_rfl) (by kernel_rfl) (fun _ _ _ h => h) (Or.inl ⟨by rfl, ?_⟩) (by assumption) ?_
            rotate_left
            · intro w' hSw; go_simp; with_reducible rfl
            try simp only [Act.put, List.setIfInBounds_toArray, List.set_cons_zero, List.set_cons_succ]
            refine wpAnyZ_take (i := 5) (v := ?_) rfl (by kernel_rfl) (by kernel_rfl) (by kernel_rfl) (by kernel_rfl) (fun _ _ _ h => h) (Or.inl ⟨by rfl, ?_⟩) (by assumption) ?_
            rotate_left
            · intro w' hSw; go_simp; with_reducible rfl
            try simp only [Act.put, List.setIfInBounds_toArray, List.set_cons_zero, List.set_cons_succ]
            refine wpAnyZ_take (i := 6) (v := ?_) rfl (by kernel_rfl) (by kernel_rfl) (by kernel_rfl) (by kernel_rfl) (fun _ _ _ h => h) (Or.inl ⟨by rfl, ?_⟩) (by assumption) ?_
            rotate_left
            · intro w' hSw; go_simp; with_reducible rfl
            try simp only [Act.put, List.setIfInBounds_toArray, List.set_cons_zero, List.set_cons_succ]
            refine wpAnyZ_take (i := 7) (v := ?_) rfl (by kernel_rfl) (by kernel_rfl) (by kernel_rfl) (by kernel_rfl) (fun _ _ _ h => h) (Or.inl ⟨by rfl, ?_⟩) (by assumption) ?_
            rotate_left
            · intro w' hSw; go_simp; with_reducible rfl
            try simp only [Act.put, List.setIfInBounds_toArray, List.set_cons_zero, List.set_cons_succ]
            have c6 : wr.cell? ⟨w.heap.size + 1, 6, none⟩ = some (.int .i64 (fewSum north cols east svs k)) := r2.cell 6
            have z6 := r2.frozen 6
            refine wpAnyZ_one (i := 8) (by kernel_rfl) rfl (fun K6 hK6 => ?_)
            go_simp
            refine hK6.out _ _ (fun h => absurd rfl h) (fun _ => ?_)
            refine wpAnyZ_done (by kernel_rfl) ?_ _
            clear hK6 K6 f1 f2 f3 hS c6 z6 hw1
            have hO := bO.lt
            have hV := bV.lt
            have hfE0 : Fr (fun i => i = w.heap.size + 1) wk wr := hf.t2 rf (fun i hi h => by omega)
            have hfE := hfE0.s (p := ⟨w.heap.size + 1, 6, none⟩) (.inl rfl) (.int .i64 ((fewSum north cols east svs (k + 1) : Nat) : Int))
            have rrE := rr.kept (grownBy_set wr ⟨w.heap.size + 1, 6, none⟩ (.int .i64 ((fewSum north cols east svs (k + 1) : Nat) : Int))) (.inr (own_ne rr r2 (by decide)).symm)
            have bME := (rf.blk b1 (by omega)).far (p := ⟨w.heap.size + 1, 6, none⟩) (by simp) (.int .i64 ((fewSum north cols east svs (k + 1) : Nat) : Int))
            have bVE := r3.far (p := ⟨w.heap.size + 1, 6, none⟩) (by simp) (.int .i64 ((fewSum north cols east svs (k + 1) : Nat) : Int))
            have bOE := r2.set_ 6 (.int .i64 ((fewSum north cols east svs (k + 1) : Nat) : Int))
            rw [oc_sum] at bOE
            have hDE : (wr.setCell ⟨w.heap.size + 1, 6, none⟩ (.int .i64 ((fewSum north cols east svs (k + 1) : Nat) : Int))).heap[D]? = some (.deferred (some [])) := by
              have h1 : wr.heap[D]? = some (.deferred (some [])) := (rf.block D (Array.getElem?_eq_some_iff.1 hDef').1 (by
                rintro rfl
                obtain ⟨c, t, f, e⟩ := own_cells hr (g := D) rfl
                rw [e] at hDef'; cases hDef')).trans hDef'
              refine (Below.heap_setCell _ _ _ _ ?_).trans h1
              rintro rfl
              rw [show wr.heap[w.heap.size + 1]? = _ from r2] at h1; cases h1
            have hGE : G w (wr.setCell ⟨w.heap.size + 1, 6, none⟩ (.int .i64 ((fewSum north cols east svs (k + 1) : Nat) : Int))) := ((G.fr hG).t hfE).toG (fun i hi h => by omega)
            generalize wr.setCell ⟨w.heap.size + 1, 6, none⟩ (.int .i64 ((fewSum north cols east svs (k + 1) : Nat) : Int)) = WE at *
            have hOI : OpenInv w north wrong cols lofts east svs ea sa ec sc (k + 1) WE.drew := by
              refine ⟨_, bME.dr, bOE.dr, bVE.dr, fun j hj => ?_, fun j hj => ?_, hGE.d⟩
              · unfold upd; rw [if_neg (by omega)]; exact hnil j (by omega)
              · unfold upd
                by_cases hjk : j = k
                · subst hjk
                  rw [if_pos rfl]
                  exact SpotsAt.of_row rrE.drew (hspl j)
                · rw [if_neg hjk]
                  have hsj := hsp j (by omega)
                  refine hsj.keep (W' := WE.drew) (fun g hg e => hfE.d.block g hg ?_) hfE.d.size
                  rintro rfl
                  obtain ⟨g', cap', hv', _, hc'⟩ := hsj
                  rw [hv'] at e
                  obtain rfl : g' = w.heap.size + 1 := by simpa [Value.ownBlock] using e
                  have h2 := (hc' 0 (by rw [hspl j]; omega)).2.2
                  have h3 := bO.cell 2
                  rw [show 0 * 3 + 2 = 2 from rfl] at h2
                  rw [h2] at h3
                  cases h3
            have hMkE : Marks w.heap.size (D :: Ds) WE.drew := by
              have hDb : ∀ D', D' ∈ Ds → D' < wk.heap.size := fun D' h => (Array.getElem?_eq_some_iff.1 (hMk.2 D' h).2).1
              refine ⟨List.nodup_cons.2 ⟨fun h => ?_, hMk.1⟩, fun D' h => ?_⟩
              · have := hDb D h
                simp at hD
                omega
              · rcases List.mem_cons.1 h with rfl | h
                · refine ⟨?_, hDE⟩
                  simp at hD
                  omega
                · refine ⟨(hMk.2 D' h).1, (hfE.d.block D' (hDb D' h) ?_).trans (hMk.2 D' h).2⟩
                  rintro rfl
                  have h1 := (hMk.2 _ h).2
                  rw [show wk.heap[w.heap.size + 1]? = _ from bO] at h1; cases h1
            gi_wp2
            rw [show ((k : Int) + 1) = ((k + 1 : Nat) : Int) from rfl]
            refine ⟨⟨k + 1, D :: Ds, ?_⟩, ?_⟩
            · repeat apply Exists.intro
              exact ⟨⟨by omega, hOI, hMkE⟩, rfl⟩
            · show lofts - (k + 1) < lofts - k
              omega
      case stop =>
        rintro D c pre W _ _ h _
        exact h.elim
    · obtain rfl : lofts = k := by omega
      have mV := bV.cell 0
      have hOI : OpenInv w north wrong cols lofts east svs ea sa ec sc lofts wr := ⟨slv, bM, bO, bV, hnil, hsp, hG⟩
      gi_wp2
      refine leaves_marks Ds wr hMk (fun w' hw' => ?_)
      refine ⟨_, results_tmp rfl _ _ _, rfl, ?_⟩
      refine hOI.marks hMk (fun j => ?_) hw'
      have hbd := vm_bounds hv
      have hN1 : 1 ≤ (allP cols east.length).length := by
        rw [allP_len]; exact Nat.mul_le_mul (show 1 ≤ east.length by omega) (show 1 ≤ cols by omega)
      simp only [spotsOf, List.length_map]
      omega
end Go.Proofs.Ytpjfdfddcnocpaa
