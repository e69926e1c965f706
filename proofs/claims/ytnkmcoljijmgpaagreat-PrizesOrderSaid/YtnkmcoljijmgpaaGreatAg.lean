import Derived.Test.YtnkmcoljijmgpaaGreatAf
import Derived.Sort.Grow
import Derived.Shelf.GgSortFunc.InsertionK
set_option linter.unusedSimpArgs false
set_option linter.unusedVariables false
namespace Go.Proofs.YtnkmcoljijmgpaaGreat
open Go.RowKit Go.Shelf Go.Sort
attribute [local go_sem] Oper.semAt_some
/-- shares: the function that tells what each gets -/
theorem shares_any (amount birds : Int) (w : World) : Calls Tryz.prog 74 #[.int .i64 amount, .int .i64 birds] w fun e w' =>
    e = .returned (.func (.func 99) #[] #[.pointer (some ⟨w.heap.size, 0, none⟩), .pointer (some ⟨w.heap.size + 1, 0, none⟩)]) ∧ Blk w' w.heap.size 3 #[.int .i64 amount] ∧ Blk w' (w.heap.size + 1) 3 #[.int .i64 birds] ∧ G w w' := by
  have g0 : G w (w.alloc (.cells #[.int .i64 amount] 3)) := (G.rf _).a _
  have b0 : Blk (w.alloc (.cells #[.int .i64 amount] 3)) w.heap.size 3 #[.int .i64 amount] := Blk.new _ _ _
  have b1 : Blk ((w.alloc (.cells #[.int .i64 amount] 3)).alloc (.cells #[.int .i64 birds] 3)) (w.heap.size + 1) 3 #[.int .i64 birds] := by
    have := Blk.new (w.alloc (.cells #[.int .i64 amount] 3)) 3 #[.int .i64 birds]
    have e : (w.alloc (.cells #[.int .i64 amount] 3)).heap.size = w.heap.size + 1 := Array.size_push ..
    rw [e] at this
    exact this
  go_enter Tryz.func74, Tryz.ntmps74
  go_wp2_with fail
  go_ret
  exact ⟨by simp [World.alloc], b0.keep ((G.rf _).a _), b1, g0.a _⟩
/-- the code's order of racers: by ring -/
def birdC (x y : Rc) : Int := cmpI x.bird y.bird
set_option maxHeartbeats 1000000 in
theorem closure78 (x y : Rc) (W : World) : Calls Tryz.prog 78 #[.agg x.v, .agg y.v] W fun e w' => e = .returned (.int .i64 (birdC x y)) ∧ ∃ q os', w' = grow (W.drewN q) os' := by
  have hcon := fun W' => cmp_any x.bird y.bird W'
  unfold birdC
  generalize cmpI x.bird y.bird = r at hcon ⊢
  obtain ⟨xb, xo, xr, xd, xpa, xpc, xp⟩ := x
  obtain ⟨yb, yo, yr, yd, ypa, ypc, yp⟩ := y
  unfold Rc.v
  dsimp only at *
  go_enter Tryz.func78, Tryz.ntmps78
  go_wp2_with (go_at_call 57; refine (hcon _).mono ?_; rintro e w' ⟨rfl, rfl⟩)
  go_ret
  exact ⟨rfl, 0, _, by rw [alloc_eq_grow, alloc_eq_grow, grow_grow]; rfl⟩
/-- a racer's cells -/
def rcE (x : Rc) : List Value := x.v.toList
def rcV (l : List Rc) : List Value := l.flatMap rcE
theorem rcE_len (x : Rc) : (rcE x).length = 5 := rfl
theorem rcV_len (l : List Rc) : (rcV l).length = l.length * 5 := by
  induction l with
  | nil => rfl
  | cons x l ih => simp only [rcV, List.flatMap_cons, List.length_append, rcE_len, List.length_cons] at *; omega
theorem rcV_snoc (l : List Rc) (x : Rc) : rcV (l ++ [x]) = rcV l ++ rcE x := by simp [rcV]
theorem rcV_get (l : List Rc) {i r : Nat} (hi : i < l.length) (hr : r < 5) : (rcV l)[i * 5 + r]? = (rcE (l.getD i default))[r]? := by
  induction l generalizing i with
  | nil => simp at hi
  | cons x l ih =>
    simp only [rcV, List.flatMap_cons] at *
    cases i with
    | zero => rw [Nat.zero_mul, Nat.zero_add, List.getElem?_append_left (by rw [rcE_len]; exact hr)]; rfl
    | succ i =>
      rw [List.getElem?_append_right (by rw [rcE_len]; omega), rcE_len, show (i + 1) * 5 + r - 5 = i * 5 + r by omega]
      rw [ih (by simpa using hi)]
      simp
theorem flat_rc (l : List Rc) : (flatK rcE 5 l.toArray).toList = rcV l := by
  apply List.ext_getElem?
  intro t
  by_cases ht : t < l.length * 5
  · have e := rcV_get l (i := t / 5) (r := t % 5) (by omega) (by omega)
    rw [show t / 5 * 5 + t % 5 = t by omega] at e
    rw [e]
    have h2 := get_flatK rcE 5 l.toArray t (by simpa using ht)
    have hs : t < (flatK rcE 5 l.toArray).size := by simpa using ht
    rw [getElem!_pos (flatK rcE 5 l.toArray) t hs] at h2
    have hq : t / 5 < l.length := by omega
    have h3 : (l.toArray)[t / 5]! = l.getD (t / 5) default := by
      rw [getElem!_pos l.toArray (t / 5) (by simpa using hq)]
      simp [List.getD_eq_getElem?_getD, hq]
    rw [h3] at h2
    have hr : t % 5 < (rcE (l.getD (t / 5) default)).length := by rw [rcE_len]; omega
    rw [getElem!_pos (rcE (l.getD (t / 5) default)) (t % 5) hr] at h2
    rw [List.getElem?_eq_getElem (by simpa using hs), List.getElem?_eq_getElem hr, ← h2]
    simp
  · rw [List.getElem?_eq_none (by simp; omega), List.getElem?_eq_none (by rw [rcV_len]; omega)]
theorem holds_rc {W : World} {g n : Nat} {cur : Array Value} {l : List Rc} (hb : W.heap[g]? = some (.cells cur 60 (0, 0))) (ht : cur.toList.take (l.length * 5) = rcV l) : HoldsK rcE 5 W g 0 l.toArray := by
  intro j hj
  have hj' : j < l.length * 5 := by simpa using hj
  refine ⟨?_, by simp [World.frozen?, hb]⟩
  have h1 : (cur.toList.take (l.length * 5))[j]? = ((flatK rcE 5 l.toArray).toList)[j]? := by rw [ht, flat_rc]
  rw [List.getElem?_take_of_lt hj'] at h1
  simp only [World.cell?, hb, Nat.zero_add]
  simp only [Option.isSome_none, Bool.false_eq_true, if_false]
  rw [← Array.getElem?_toList, h1, Array.getElem?_toList]
  rw [getElem!_pos (flatK rcE 5 l.toArray) j hj]
  simp only [id]
  exact Array.getElem?_eq_getElem hj
theorem heap_srt {w : World} {g n : Nat} {os : Array Obj} {cur : Array Value} {e : TypeId} {fr : Nat × Nat} (F : Array Value) (hb : w.heap[g]? = some (.cells cur e fr)) :
    (grow (putRow id (Sort.ahead w n) g 0 F) os).heap[g]? = some (.cells (putCells id 0 F cur) e fr) := by
  have hg : g < w.heap.size := (Array.getElem?_eq_some_iff.1 hb).1
  rw [heap_grow_old _ _ (by simpa using hg)]
  simp [putRow, mapBlock, Sort.ahead, Array.getElem?_modify, hb, onCells]
theorem grownBy_srt {w : World} {g n : Nat} {os : Array Obj} (F : Array Value) : w.grownBy (grow (putRow id (Sort.ahead w n) g 0 F) os) (some g) := by
  refine ⟨rfl, rfl, rfl, by simp, fun k hk hne => ?_⟩
  rw [heap_grow_old _ _ (by simpa using hk)]
  have : g ≠ k := fun e => hne (by rw [e])
  simp [putRow, mapBlock, Sort.ahead, Array.getElem?_modify, this]
theorem take_putFlat (cur F : Array Value) (h : F.size ≤ cur.size) : (putCells id 0 F cur).toList.take F.size = F.toList := by
  apply List.ext_getElem?
  intro j
  by_cases hj : j < F.size
  · rw [List.getElem?_take_of_lt hj, Array.getElem?_toList]
    simp [putCells, hj, show j < cur.size by omega]
  · rw [List.getElem?_take_eq_none (by omega), List.getElem?_eq_none (by simp; omega)]
/-- behind the sort the same slice owns what was sorted -/
theorem own_srt {w : World} {base g cap n : Nat} {os : Array Obj} {cur : Array Value} {l l' : List Rc} (hl : l'.length = l.length) (hbase : base ≤ g) (hb : w.heap[g]? = some (.cells cur 60 (0, 0)))
    (h1 : l.length ≤ cap) (h2 : cap ≤ maxLen) (h3 : cur.size = cap * 5) :
    (sortWorldK rcE 5 w g 0 n l'.toArray os).ownsRow base 60 5 (.slice (some ⟨g, 0, none⟩) l.length cap) l.length (rcV l') := by
  unfold sortWorldK putRowK
  have hF : (flatK rcE 5 l'.toArray).size = l.length * 5 := by simp [hl]
  refine ⟨by rw [rcV_len, hl], .inr ⟨g, cap, _, rfl, hbase, heap_srt _ hb, h1, h2, by simp [putCells, h3], ?_⟩⟩
  rw [← hF, take_putFlat _ _ (by rw [hF, h3]; omega), flat_rc]
/-- sorted by ring -/
def srt (l : List Rc) : List Rc := l.mergeSort fun x y => decide (x.bird ≤ y.bird)
theorem srt_len (l : List Rc) : (srt l).length = l.length := by simp [srt]
theorem srt_perm (l : List Rc) : (srt l).Perm l := List.mergeSort_perm _ _
theorem srt_pw (l : List Rc) : (srt l).Pairwise fun x y => x.bird ≤ y.bird := by
  have := List.pairwise_mergeSort (le := fun x y : Rc => decide (x.bird ≤ y.bird)) (fun a b c h1 h2 => by simp at *; omega) (fun a b => by simp; omega) l
  exact this.imp fun h => by simpa using h
/-- no two of one ring -/
def Uniq (l : List Rc) : Prop := l.Pairwise fun x y => x.bird ≠ y.bird
theorem uniq_eq {l : List Rc} (h : Uniq l) {x y : Rc} (hx : x ∈ l) (hy : y ∈ l) (e : x.bird = y.bird) : x = y := by
  induction l with
  | nil => simp at hx
  | cons a l ih =>
    rw [Uniq, List.pairwise_cons] at h
    rcases List.mem_cons.1 hx with h1 | h1
    · rcases List.mem_cons.1 hy with h2 | h2
      · rw [h1, h2]
      · rw [h1] at e
        exact absurd e (h.1 y h2)
    · rcases List.mem_cons.1 hy with h2 | h2
      · rw [h2] at e
        exact absurd e.symm (h.1 x h1)
      · exact ih h.2 h1 h2
theorem srt_unique {l l' : List Rc} (h : Uniq l) (hp : l'.Perm l) (hs : l'.Pairwise fun x y => x.bird ≤ y.bird) : l' = srt l :=
  List.Perm.eq_of_pairwise (le := fun x y : Rc => x.bird ≤ y.bird) (fun a b ha hb h1 h2 => uniq_eq h (hp.mem_iff.1 ha) ((srt_perm l).mem_iff.1 hb) (by omega)) hs (srt_pw l) (hp.trans (srt_perm l).symm)
theorem ltBird (x y : Rc) : decide (birdC x y < 0) = decide (x.bird < y.bird) := by
  unfold birdC cmpI
  by_cases h1 : x.bird < y.bird
  · simp [h1]
  · by_cases h2 : y.bird < x.bird <;> simp [h1, h2]
end Go.Proofs.YtnkmcoljijmgpaaGreat
