import Derived.Shelf.SlSortCmp.NoneTotal
import Derived.Shelf.SlSortCmp.WholeK
import Derived.Ground.SlsfProg
import Derived.Test.YtnkmcoljijmgpaaGreatBl
import Derived.Sort.MapsRangeIn
set_option linter.unusedSimpArgs false
set_option linter.unusedVariables false
namespace Go.Proofs.YtnkmcoljijmgpaaGreat
open Go.RowKit Go.Shelf Go.Sort
attribute [local go_sem] Oper.semAt_some
/-- a purse -/
structure Pu where
  owner : Int
  staked : Int
  paid : Int
instance : Inhabited Pu := ⟨⟨0, 0, 0⟩⟩
def Pu.v (x : Pu) : Array Value := #[.int .i64 x.owner, .int .i64 x.staked, .int .i64 x.paid]
theorem Pu.vs (x : Pu) : x.v.size = 3 := rfl
def ownC (x y : Pu) : Int := cmpI x.owner y.owner
set_option maxHeartbeats 1000000 in
theorem closure56 (x y : Pu) (W : World) : Calls Tryz.prog 56 #[.agg x.v, .agg y.v] W fun e w' => e = .returned (.int .i64 (ownC x y)) ∧ ∃ q os', w' = grow (W.drewN q) os' := by
  have hcon := fun W' => cmp_any x.owner y.owner W'
  unfold ownC
  generalize cmpI x.owner y.owner = r at hcon ⊢
  obtain ⟨xb, xo, xr⟩ := x
  obtain ⟨yb, yo, yr⟩ := y
  unfold Pu.v
  dsimp only at *
  go_enter Tryz.func56, Tryz.ntmps56
  go_wp2_with (go_at_call 57; refine (hcon _).mono ?_; rintro e w' ⟨rfl, rfl⟩)
  go_ret
  exact ⟨rfl, 0, _, by rw [alloc_eq_grow, alloc_eq_grow, grow_grow]; rfl⟩
/-- a racer's cells -/
def puE (x : Pu) : List Value := x.v.toList
def puV (l : List Pu) : List Value := l.flatMap puE
theorem puE_len (x : Pu) : (puE x).length = 3 := rfl
theorem puV_len (l : List Pu) : (puV l).length = l.length * 3 := by
  induction l with
  | nil => rfl
  | cons x l ih => simp only [puV, List.flatMap_cons, List.length_append, puE_len, List.length_cons] at *; omega
theorem puV_snoc (l : List Pu) (x : Pu) : puV (l ++ [x]) = puV l ++ puE x := by simp [puV]
theorem puV_get (l : List Pu) {i r : Nat} (hi : i < l.length) (hr : r < 3) : (puV l)[i * 3 + r]? = (puE (l.getD i default))[r]? := by
  induction l generalizing i with
  | nil => simp at hi
  | cons x l ih =>
    simp only [puV, List.flatMap_cons] at *
    cases i with
    | zero => rw [Nat.zero_mul, Nat.zero_add, List.getElem?_append_left (by rw [puE_len]; exact hr)]; rfl
    | succ i =>
      rw [List.getElem?_append_right (by rw [puE_len]; omega), puE_len, show (i + 1) * 3 + r - 3 = i * 3 + r by omega]
      rw [ih (by simpa using hi)]
      simp
theorem flat_pu (l : List Pu) : (flatK puE 3 l.toArray).toList = puV l := by
  apply List.ext_getElem?
  intro t
  by_cases ht : t < l.length * 3
  · have e := puV_get l (i := t / 3) (r := t % 3) (by omega) (by omega)
    rw [show t / 3 * 3 + t % 3 = t by omega] at e
    rw [e]
    have h2 := get_flatK puE 3 l.toArray t (by simpa using ht)
    have hs : t < (flatK puE 3 l.toArray).size := by simpa using ht
    rw [getElem!_pos (flatK puE 3 l.toArray) t hs] at h2
    have hq : t / 3 < l.length := by omega
    have h3 : (l.toArray)[t / 3]! = l.getD (t / 3) default := by
      rw [getElem!_pos l.toArray (t / 3) (by simpa using hq)]
      simp [List.getD_eq_getElem?_getD, hq]
    rw [h3] at h2
    have hr : t % 3 < (puE (l.getD (t / 3) default)).length := by rw [puE_len]; omega
    rw [getElem!_pos (puE (l.getD (t / 3) default)) (t % 3) hr] at h2
    rw [List.getElem?_eq_getElem (by simpa using hs), List.getElem?_eq_getElem hr, ← h2]
    simp
  · rw [List.getElem?_eq_none (by simp; omega), List.getElem?_eq_none (by rw [puV_len]; omega)]
theorem holds_pu {W : World} {g n : Nat} {cur : Array Value} {l : List Pu} (hb : W.heap[g]? = some (.cells cur 47 (0, 0))) (ht : cur.toList.take (l.length * 3) = puV l) : HoldsK puE 3 W g 0 l.toArray := by
  intro j hj
  have hj' : j < l.length * 3 := by simpa using hj
  refine ⟨?_, by simp [World.frozen?, hb]⟩
  have h1 : (cur.toList.take (l.length * 3))[j]? = ((flatK puE 3 l.toArray).toList)[j]? := by rw [ht, flat_pu]
  rw [List.getElem?_take_of_lt hj'] at h1
  simp only [World.cell?, hb, Nat.zero_add]
  simp only [Option.isSome_none, Bool.false_eq_true, if_false]
  rw [← Array.getElem?_toList, h1, Array.getElem?_toList]
  rw [getElem!_pos (flatK puE 3 l.toArray) j hj]
  simp only [id]
  exact Array.getElem?_eq_getElem hj
/-- behind the sort the same slice owns what was sorted -/
theorem own_srtP {w : World} {base g cap n : Nat} {os : Array Obj} {cur : Array Value} {l l' : List Pu} (hl : l'.length = l.length) (hbase : base ≤ g) (hb : w.heap[g]? = some (.cells cur 47 (0, 0)))
    (h1 : l.length ≤ cap) (h2 : cap ≤ maxLen) (h3 : cur.size = cap * 3) :
    (sortWorldK puE 3 w g 0 n l'.toArray os).ownsRow base 47 3 (.slice (some ⟨g, 0, none⟩) l.length cap) l.length (puV l') := by
  unfold sortWorldK putRowK
  have hF : (flatK puE 3 l'.toArray).size = l.length * 3 := by simp [hl]
  refine ⟨by rw [puV_len, hl], .inr ⟨g, cap, _, rfl, hbase, heap_srt _ hb, h1, h2, by simp [putCells, h3], ?_⟩⟩
  rw [← hF, take_putFlat _ _ (by rw [hF, h3]; omega), flat_pu]
/-- sorted by ring -/
def srtP (l : List Pu) : List Pu := l.mergeSort fun x y => decide (x.owner ≤ y.owner)
theorem srtP_len (l : List Pu) : (srtP l).length = l.length := by simp [srtP]
theorem srtP_perm (l : List Pu) : (srtP l).Perm l := List.mergeSort_perm _ _
theorem srtP_pw (l : List Pu) : (srtP l).Pairwise fun x y => x.owner ≤ y.owner := by
  have := List.pairwise_mergeSort (le := fun x y : Pu => decide (x.owner ≤ y.owner)) (fun a b c h1 h2 => by simp at *; omega) (fun a b => by simp; omega) l
  exact this.imp fun h => by simpa using h
/-- no two of one ring -/
def UniqP (l : List Pu) : Prop := l.Pairwise fun x y => x.owner ≠ y.owner
theorem uniqP_eq {l : List Pu} (h : UniqP l) {x y : Pu} (hx : x ∈ l) (hy : y ∈ l) (e : x.owner = y.owner) : x = y := by
  induction l with
  | nil => simp at hx
  | cons a l ih =>
    rw [UniqP, List.pairwise_cons] at h
    rcases List.mem_cons.1 hx with h1 | h1
    · rcases List.mem_cons.1 hy with h2 | h2
      · rw [h1, h2]
      · rw [h1] at e
        exact absurd e (h.1 y h2)
    · rcases List.mem_cons.1 hy with h2 | h2
      · rw [h2] at e
        exact absurd e.symm (h.1 x h1)
      · exact ih h.2 h1 h2
theorem srtP_unique {l l' : List Pu} (h : UniqP l) (hp : l'.Perm l) (hs : l'.Pairwise fun x y => x.owner ≤ y.owner) : l' = srtP l :=
  List.Perm.eq_of_pairwise (le := fun x y : Pu => x.owner ≤ y.owner) (fun a b ha hb h1 h2 => uniqP_eq h (hp.mem_iff.1 ha) ((srtP_perm l).mem_iff.1 hb) (by omega)) hs (srtP_pw l) (hp.trans (srtP_perm l).symm)
theorem ltOwn (x y : Pu) : decide (ownC x y < 0) = decide (x.owner < y.owner) := by
  unfold ownC cmpI
  by_cases h1 : x.owner < y.owner
  · simp [h1]
  · by_cases h2 : y.owner < x.owner <;> simp [h1, h2]
def Tryz.sortPu_ren : Go.Shelf.Ren := ⟨fun | 6 => 80 | 15 => 102 | 14 => 104 | 28 => 127 | 29 => 128 | 20 => 129 | 21 => 130 | 22 => 131 | 23 => 132 | 24 => 133 | 25 => 134 | 26 => 135 | 27 => 136 | 46 => 156 | 47 => 152 | 48 => 153 | 49 => 157 | 50 => 158 | 57 => 165 | n => n, fun | 22 => 43 | 24 => 47 | 25 => 100 | 3 => 3 | 39 => 72 | 0 => 0 | 53 => 156 | 55 => 158 | 4 => 4 | 46 => 149 | 45 => 148 | 50 => 153 | 5 => 5 | 9 => 9 | 66 => 172 | 70 => 176 | 76 => 182 | 77 => 183 | n => n, fun | n => n⟩
theorem Tryz.sortPu : Go.Proofs.SlLaysF0.n6 Tryz.prog Tryz.sortPu_ren := {
  mixed := by kernel_rfl,
  f6 := ⟨Tryz.f80.name, by decide, Tryz.func80.trans (congrArg some (by kernel_rfl))⟩,
  f14 := ⟨Tryz.f104.name, by decide, Tryz.func104.trans (congrArg some (by kernel_rfl))⟩,
  f15 := Tryz.func102.trans (congrArg some (by kernel_rfl)),
  f20 := ⟨Tryz.f129.name, by decide, Tryz.func129.trans (congrArg some (by kernel_rfl))⟩,
  f21 := ⟨Tryz.f130.name, by decide, Tryz.func130.trans (congrArg some (by kernel_rfl))⟩,
  f22 := ⟨Tryz.f131.name, by decide, Tryz.func131.trans (congrArg some (by kernel_rfl))⟩,
  f23 := ⟨Tryz.f132.name, by decide, Tryz.func132.trans (congrArg some (by kernel_rfl))⟩,
  f24 := ⟨Tryz.f133.name, by decide, Tryz.func133.trans (congrArg some (by kernel_rfl))⟩,
  f25 := ⟨Tryz.f134.name, by decide, Tryz.func134.trans (congrArg some (by kernel_rfl))⟩,
  f26 := ⟨Tryz.f135.name, by decide, Tryz.func135.trans (congrArg some (by kernel_rfl))⟩,
  f27 := ⟨Tryz.f136.name, by decide, Tryz.func136.trans (congrArg some (by kernel_rfl))⟩,
  f28 := Tryz.func127.trans (congrArg some (by kernel_rfl)),
  f29 := Tryz.func128.trans (congrArg some (by kernel_rfl)),
  f46 := ⟨Tryz.f156.name, by decide, Tryz.func156.trans (congrArg some (by kernel_rfl))⟩,
  f47 := Tryz.func152.trans (congrArg some (by kernel_rfl)),
  f48 := Tryz.func153.trans (congrArg some (by kernel_rfl)),
  f49 := ⟨Tryz.f157.name, by decide, Tryz.func157.trans (congrArg some (by kernel_rfl))⟩,
  f50 := ⟨Tryz.f158.name, by decide, Tryz.func158.trans (congrArg some (by kernel_rfl))⟩,
  f57 := ⟨Tryz.f165.name, by decide, Tryz.func165.trans (congrArg some (by kernel_rfl))⟩,
  t0 := Tryz.underlying0,
  a0 := Tryz.isAgg0,
  z0 := Tryz.sizeOf0,
  v0 := Tryz.zeroValue0,
  t3 := Tryz.underlying3,
  a3 := Tryz.isAgg3,
  z3 := Tryz.sizeOf3,
  v3 := Tryz.zeroValue3,
  t4 := Tryz.underlying4,
  a4 := Tryz.isAgg4,
  z4 := Tryz.sizeOf4,
  v4 := Tryz.zeroValue4,
  t5 := Tryz.underlying5,
  a5 := Tryz.isAgg5,
  z5 := Tryz.sizeOf5,
  v5 := Tryz.zeroValue5,
  t9 := Tryz.underlying9,
  a9 := Tryz.isAgg9,
  z9 := Tryz.sizeOf9,
  v9 := Tryz.zeroValue9,
  t22 := Tryz.underlying43,
  a22 := Tryz.isAgg43,
  z22 := Tryz.sizeOf43,
  v22 := Tryz.zeroValue43,
  t25 := Tryz.underlying100,
  a25 := Tryz.isAgg100,
  z25 := Tryz.sizeOf100,
  v25 := Tryz.zeroValue100,
  t39 := Tryz.underlying72,
  a39 := Tryz.isAgg72,
  z39 := Tryz.sizeOf72,
  v39 := Tryz.zeroValue72,
  t45 := Tryz.underlying148,
  a45 := Tryz.isAgg148,
  z45 := Tryz.sizeOf148,
  v45 := Tryz.zeroValue148,
  t46 := Tryz.underlying149,
  a46 := Tryz.isAgg149,
  z46 := Tryz.sizeOf149,
  v46 := Tryz.zeroValue149,
  t50 := Tryz.underlying153,
  a50 := Tryz.isAgg153,
  z50 := Tryz.sizeOf153,
  v50 := Tryz.zeroValue153,
  t53 := Tryz.underlying156,
  a53 := Tryz.isAgg156,
  z53 := Tryz.sizeOf156,
  v53 := Tryz.zeroValue156,
  t55 := Tryz.underlying158,
  a55 := Tryz.isAgg158,
  z55 := Tryz.sizeOf158,
  v55 := Tryz.zeroValue158,
  t66 := Tryz.underlying172,
  a66 := Tryz.isAgg172,
  z66 := Tryz.sizeOf172,
  v66 := Tryz.zeroValue172,
  t70 := Tryz.underlying176,
  a70 := Tryz.isAgg176,
  z70 := Tryz.sizeOf176,
  v70 := Tryz.zeroValue176,
  t76 := Tryz.underlying182,
  a76 := Tryz.isAgg182,
  z76 := Tryz.sizeOf182,
  v76 := Tryz.zeroValue182,
  t77 := Tryz.underlying183,
  a77 := Tryz.isAgg183,
  z77 := Tryz.sizeOf183,
  v77 := Tryz.zeroValue183 }
theorem swoOwn : SWO (ltOf ownC) where
  irrefl x := by rw [show ltOf ownC x x = _ from ltOwn x x]; simp
  trans x y z h1 h2 := by rw [show ltOf ownC x y = _ from ltOwn x y] at h1; rw [show ltOf ownC y z = _ from ltOwn y z] at h2; rw [show ltOf ownC x z = _ from ltOwn x z]; simp at *; omega
  ntrans x y z h1 h2 := by rw [show ltOf ownC x y = _ from ltOwn x y] at h1; rw [show ltOf ownC y z = _ from ltOwn y z] at h2; rw [show ltOf ownC x z = _ from ltOwn x z]; simp at *; omega
theorem srtP_of {l : List Pu} (hu : UniqP l) {d' : Array Pu} (hp : PermIn 0 l.toArray.size l.toArray d') (hs : SortedIn (ltOf ownC) 0 l.toArray.size d') : d' = (srtP l).toArray := by
  have e : d'.toList = srtP l := srtP_unique hu (by simpa using perm_toList hp) (by
    rw [List.pairwise_iff_getElem]
    intro i j hi hj hij
    have hsz : d'.size = l.toArray.size := hp.1
    have hi' : i < d'.size := by simpa using hi
    have hj' : j < d'.size := by simpa using hj
    have := hs i j (Nat.zero_le _) hij (by omega)
    rw [show ltOf ownC d'[j]! d'[i]! = _ from ltOwn _ _] at this
    rw [getElem!_pos d' j hj', getElem!_pos d' i hi'] at this
    simp at this
    simpa using this)
  rw [← e]
set_option maxRecDepth 100000 in
/-- slices.SortFunc by ring, at a row of one's own -/
theorem sortP_own (l : List Pu) (hu : UniqP l) (hl : l.length ≤ 1000) (W : World) (B : Nat) (v : Value) (h : W.ownsRow B 47 3 v l.length (puV l)) : Calls Tryz.prog 80 #[v, .func (.func 56) #[] #[]] W fun e w' => e = .returned (.tuple #[]) ∧ w'.ownsRow B 47 3 v l.length (puV (srtP l)) ∧ W.grownBy w' v.ownBlock := by
  rcases h.2 with ⟨rfl, h0⟩ | ⟨g, cap, cur, rfl, hb, hg, h1, h2, h3, h4⟩
  · have hl0 : l = [] := List.length_eq_zero_iff.1 h0
    subst hl0
    have hc := AnyF.slices_SortFunc_none Tryz.sortPu none 0 (.func (.func 56) #[] #[]) W
    change Calls Tryz.prog 80 _ _ _ at hc
    refine hc.mono ?_
    rintro e w' ⟨rfl, rfl⟩
    exact ⟨rfl, by rw [show srtP [] = [] by simp [srtP]]; exact h, World.grownBy.refl _ _⟩
  · have hlt : g < W.heap.size := (Array.getElem?_eq_some_iff.1 hg).1
    have hc := AnyQ.slices_SortFunc Tryz.sortPu 3 Tryz.isAgg47 Tryz.sizeOf47 puE puE_len (fun x v hv => by
      simp [puE, Pu.v] at hv
      rcases hv with rfl | rfl | rfl <;> rfl) ownC swoOwn 56 #[] g 0 cap l.toArray W (enters_of Tryz.func56 (by kernel_rfl) rfl) (fun m os dk _ x y => closure56 x y _) (holds_pu (n := 0) hg h4) hlt (by simp; omega)
    change Calls Tryz.prog 80 _ _ _ at hc
    rw [show l.toArray.size = l.length by simp] at hc
    refine hc.mono ?_
    rintro e w' ⟨rfl, d', n, os, hp, hs, rfl⟩
    have hd := srtP_of hu (by simpa using hp) (by simpa using hs)
    subst hd
    exact ⟨rfl, own_srtP (srtP_len l) hb hg h1 h2 h3, grownBy_srt _⟩
end Go.Proofs.YtnkmcoljijmgpaaGreat
set_option linter.unusedSimpArgs false
set_option linter.unusedVariables false
namespace Go.Proofs.YtnkmcoljijmgpaaGreat
open Go.RowKit Go.Shelf Go.Maps
attribute [local go_sem] Oper.semAt_some
/-- how a purse reads -/
def puD (x : Pu) : DataW Unit := .agg [.lit (.int .i64 x.owner), .lit (.int .i64 x.staked), .lit (.int .i64 x.paid)]
theorem puD_inj {x y : Pu} (h : puD x = puD y) : x = y := by
  obtain ⟨a, b, c⟩ := x
  obtain ⟨d, e, f⟩ := y
  simp only [puD, DataW.agg.injEq, List.cons.injEq, DataW.lit.injEq, Lit.int.injEq, true_and, and_true] at h
  obtain ⟨rfl, rfl, rfl⟩ := h
  rfl
noncomputable def puR (v : Value) : Option (DataW Unit × List MemPlace) := open Classical in if h : ∃ x : Pu, v = .agg x.v then some (puD h.choose, []) else none
theorem puV_inj {x y : Pu} (h : Value.agg x.v = .agg y.v) : x = y := by
  obtain ⟨a, b, c⟩ := x
  obtain ⟨d, e, f⟩ := y
  simp only [Pu.v, Value.agg.injEq, Array.mk.injEq, List.cons.injEq, Value.int.injEq, true_and, and_true] at h
  obtain ⟨rfl, rfl, rfl⟩ := h
  rfl
theorem puR_mk (x : Pu) : puR (.agg x.v) = some (puD x, []) := by
  have h : ∃ y : Pu, Value.agg x.v = .agg y.v := ⟨x, rfl⟩
  unfold puR
  rw [dif_pos h, ← puV_inj h.choose_spec]
theorem puR_inv {v : Value} {y : DataW Unit × List MemPlace} (h : puR v = some y) : ∃ x : Pu, v = .agg x.v ∧ y = (puD x, []) := by
  unfold puR at h
  by_cases hx : ∃ x : Pu, v = .agg x.v
  · rw [dif_pos hx] at h
    exact ⟨hx.choose, hx.choose_spec, by cases h; rfl⟩
  · rw [dif_neg hx] at h
    cases h
/-- block m is a map of purses by owner, of at most N entries -/
def PuM (W : World) (m N : Nat) (ps : List Pu) : Prop := ∃ D : DataW Unit, W.ownsMap Tryz.prog 3 puR m N D ∧ (∀ x : Int, has D (.int .i64 x) = ps.any fun p => p.owner == x) ∧ ∀ q, q ∈ ps → ∀ z, D.atKey (.int .i64 q.owner) z = puD q
theorem PuM.made (W : World) : PuM (W.alloc (.map #[] 0)) W.heap.size 0 [] := ⟨_, World.ownsMap_made _ _ _ _, fun x => rfl, fun q h => by simp at h⟩
theorem PuM.keep {W W' : World} {m N : Nat} {ps : List Pu} (h : PuM W m N ps) (hG : G W W') : PuM W' m N ps := by
  obtain ⟨D, h1, h2⟩ := h
  refine ⟨D, ?_, h2⟩
  obtain ⟨es, clock, hb, F, hs, e⟩ := h1
  exact ⟨es, clock, (hG.block m (Array.getElem?_eq_some_iff.1 hb).1).trans hb, F, hs, e⟩
theorem PuM.grown {W W' : World} {m N : Nat} {ps : List Pu} {row : Option Nat} (h : PuM W m N ps) (hg : W.grownBy W' row) (hne : some m ≠ row) : PuM W' m N ps := by
  obtain ⟨D, h1, h2⟩ := h
  exact ⟨D, h1.kept hg hne, h2⟩
theorem PuM.lt {W : World} {m N : Nat} {ps : List Pu} (h : PuM W m N ps) : m < W.heap.size := by
  obtain ⟨D, h1, _⟩ := h
  exact h1.lt
theorem PuM.ne {W : World} {m N : Nat} {ps : List Pu} (h : PuM W m N ps) {g : Nat} {t : TypeId} {cs : Array Value} (hb : Blk W g t cs) : g ≠ m := fun e => by
  subst e
  obtain ⟨D, h1, _⟩ := h
  obtain ⟨es, clock, hm, _⟩ := h1
  rw [show W.heap[g]? = _ from hb] at hm
  cases hm
theorem own_pum {W : World} {m N : Nat} {ps : List Pu} {b s n : Nat} {e : TypeId} {v : Value} {xs : List Value} (hw : PuM W m N ps) (h : W.ownsRow b e s v n xs) : some m ≠ v.ownBlock := by
  rcases h.2 with ⟨rfl, _⟩ | ⟨g, cap, cur, rfl, _, hg, _⟩
  · exact fun e => by cases e
  · exact fun e => by
      have e2 : m = g := by injection e
      exact hw.ne (show Blk W g _ cur from hg) e2.symm
/-- a purse is put: in the place of the one of its owner, or as a new one -/
def putP (ps : List Pu) (q : Pu) : List Pu := if ps.any (fun p => p.owner == q.owner) = true then ps.map (fun p => if p.owner = q.owner then q else p) else ps ++ [q]
/-- the purse of an owner -/
def atP (ps : List Pu) (x : Int) : Pu := match ps.find? fun p => p.owner == x with | some q => q | none => ⟨0, 0, 0⟩
theorem putP_any (ps : List Pu) (q : Pu) (y : Int) : (putP ps q).any (fun p => p.owner == y) = (ps.any (fun p => p.owner == y) || q.owner == y) := by
  unfold putP
  by_cases h : ps.any (fun p => p.owner == q.owner) = true
  · rw [if_pos h, List.any_map]
    by_cases hy : q.owner = y
    · subst hy
      simp only [beq_self_eq_true, Bool.or_true]
      obtain ⟨p, hp, he⟩ := List.any_eq_true.1 h
      refine List.any_eq_true.2 ⟨p, hp, ?_⟩
      have e : p.owner = q.owner := by simpa using he
      simp [e]
    · have e0 : (q.owner == y) = false := by simpa using hy
      rw [e0, Bool.or_false]
      congr 1
      funext p
      simp only [Function.comp]
      by_cases e : p.owner = q.owner
      · rw [if_pos e, e]
      · rw [if_neg e]
  · rw [if_neg h, List.any_append]
    simp
theorem putP_mem {ps : List Pu} {q p : Pu} (h : p ∈ putP ps q) : p = q ∨ (p ∈ ps ∧ p.owner ≠ q.owner) := by
  unfold putP at h
  by_cases ha : ps.any (fun p => p.owner == q.owner) = true
  · rw [if_pos ha] at h
    obtain ⟨p', hp', he⟩ := List.mem_map.1 h
    by_cases e : p'.owner = q.owner
    · rw [if_pos e] at he
      exact .inl he.symm
    · rw [if_neg e] at he
      subst he
      exact .inr ⟨hp', e⟩
  · rw [if_neg ha] at h
    rcases List.mem_append.1 h with h | h
    · refine .inr ⟨h, fun e => ha (List.any_eq_true.2 ⟨p, h, by simpa using e⟩)⟩
    · exact .inl (List.mem_singleton.1 h)
theorem putP_uniq {ps : List Pu} (h : UniqP ps) (q : Pu) : UniqP (putP ps q) := by
  unfold putP
  by_cases ha : ps.any (fun p => p.owner == q.owner) = true
  · rw [if_pos ha]
    unfold UniqP at *
    rw [List.pairwise_map]
    refine h.imp fun {a b} hab => ?_
    by_cases e1 : a.owner = q.owner
    · rw [if_pos e1]
      by_cases e2 : b.owner = q.owner
      · exact absurd (e1.trans e2.symm) hab
      · rw [if_neg e2]; exact fun e => e2 e.symm
    · rw [if_neg e1]
      by_cases e2 : b.owner = q.owner
      · rw [if_pos e2]; exact e1
      · rw [if_neg e2]; exact hab
  · rw [if_neg ha]
    unfold UniqP at *
    rw [List.pairwise_append]
    refine ⟨h, by simp, fun a ha' b hb e => ?_⟩
    rw [List.mem_singleton.1 hb] at e
    exact ha (List.any_eq_true.2 ⟨a, ha', by simpa using e⟩)
theorem PuM.store {W : World} {m N : Nat} {ps : List Pu} (h : PuM W m N ps) (q : Pu) (hx : -1000000000000 ≤ q.owner ∧ q.owner ≤ 1000000000000) (hn : N < maxLen) :
    ∃ W', (Instr.mapUpdate 93 (.map (some m)) (.int .i64 q.owner) (.agg q.v)).run Tryz.prog W = .ok () W' ∧ PuM W' m (N + 1) (putP ps q) ∧ W.grownBy W' (some m) := by
  obtain ⟨D, h1, h2, h3⟩ := h
  have hk := keyOf_int_mk (P := Tryz.prog) (k := 3) Tryz.underlying3 (wfI hx)
  obtain ⟨W', hrun, hown, hg⟩ := h1.update law3 Tryz.underlying93 hn hk (puR_mk q)
  have hkl : WideAt.IsKeyLit (.int .i64 q.owner) := law3.key hk
  have hinj : ∀ y : Int, y ≠ q.owner → (Lit.int .i64 y) ≠ .int .i64 q.owner := fun y hy e => hy (by injection e)
  refine ⟨W', hrun, ⟨_, hown, fun y => ?_, fun p hp z => ?_⟩, hg⟩
  · rw [putP_any]
    by_cases e : y = q.owner
    · subst e
      rw [has_put_same h1.isMap hkl]
      simp
    · rw [has_put_other (hinj y e), h2]
      simp [Ne.symm e]
  · rcases putP_mem hp with rfl | ⟨hp, hne⟩
    · exact atKey_put_same h1.isMap hkl _ _
    · rw [atKey_put_other (hinj _ hne)]
      exact h3 p hp z
theorem PuM.at {W : World} {m N : Nat} {ps : List Pu} (h : PuM W m N ps) {x : Int} (hx : -1000000000000 ≤ x ∧ x ≤ 1000000000000) (hz : (zeroValue 47).run Tryz.prog W = .ok (.agg #[.int .i64 0, .int .i64 0, .int .i64 0]) W) :
    (Instr.lookup 93 (.map (some m)) (.int .i64 x) false).run Tryz.prog W = .ok (.agg (atP ps x).v) W := by
  obtain ⟨D, h1, h2, h3⟩ := h
  have hk := keyOf_int_mk (P := Tryz.prog) (k := 3) Tryz.underlying3 (wfI hx)
  obtain ⟨v, zp, hrun, hv⟩ := h1.lookup law3 Tryz.underlying93 hz (puR_mk ⟨0, 0, 0⟩) hk
  obtain ⟨y, rfl, hy⟩ := puR_inv hv
  have e : y = atP ps x := by
    refine puD_inj ?_
    have h5 : D.atKey (.int .i64 x) (puD ⟨0, 0, 0⟩) = puD y := (congrArg Prod.fst hy)
    rw [← h5]
    unfold atP
    cases hf : ps.find? fun p => p.owner == x with
    | none =>
      have hno : has D (.int .i64 x) = false := by
        rw [h2]
        refine List.any_eq_false.2 fun q hq => ?_
        have := List.find?_eq_none.1 hf q hq
        simpa using this
      exact atKey_of_not_has hno _
    | some q =>
      have h6 := List.find?_some hf
      have h7 : q.owner = x := by simpa using h6
      rw [← h7]
      exact h3 q (List.mem_of_find?_eq_some hf) _
  rw [← e]
  exact hrun
end Go.Proofs.YtnkmcoljijmgpaaGreat
set_option linter.unusedSimpArgs false
set_option linter.unusedVariables false
namespace Go.Proofs.YtnkmcoljijmgpaaGreat
open Go.RowKit Go.Shelf Go.Maps
attribute [local go_sem] Oper.semAt_some wide_fn wide_dep wideR_fn wideR_dep
section
variable {F : Fence} {n : Nat} {P : Program}
/-- a range over a function that goes through a map; the loop variable is boxed -/
theorem rangeFunc_boxW {α : Type} {g : Operand} {tv : Tmp} {assign body : Code} {Q : Exit → Act → World → Prop} {a : Act} {w : World}
    (hro : F.round = none) (h1 : 1 ≤ n) {gf : Nat} {lb : Array Value} (hg : a.eval g = .func (.func gf) #[] lb) (hFg : F.fn gf) (eg : ∀ args w, (callFunc gf args).run P w = .ok (.enter gf args) w)
    {ev : α → Value} {S Sp : List α → Prop} {N : Nat} {w0 : World} (hseq : SeqStopsK F (n - 1) P gf lb (fun x => #[ev x]) KeepsWalks S Sp N w0)
    (hb0 : Below w0.heap.size w0 w)
    (I : List α → World → Prop) (Ix : Code → List α → World → Prop) (hI : OwnFrom w.heap.size I) (hIx : ∀ c, OwnFrom w.heap.size (Ix c)) (hIs : ∀ pre W, I pre W → w.heap.size ≤ W.heap.size) (h0 : I [] w)
    (tb : Tmp) (tt : TypeId) (bx : α → Array Value)
    (hassign : ∀ (l : Nat) (x : α) (W : World) (K : Act → World → Prop), K { tmps := (a.tmps.setIfInBounds tv (ev x)).setIfInBounds tb (.pointer (some ⟨W.heap.size, 0, none⟩)), defers := [] } (W.alloc (.cells (bx x) tt)) →
      assign.wpIn (F.inRound l) (n - 1 - 1) P (Exit.then K (fun _ _ _ => False)) { tmps := a.tmps.setIfInBounds tv (ev x), defers := [] } W)
    (hbody : ∀ (l : Nat) (pre : List α) (x : α) (Bp : Nat) (W : World), w.heap.size ≤ l → (∃ r, W.heap[l]? = some (.loop r)) → I pre W → w.heap.size ≤ Bp → Blk W Bp tt (bx x) → pre.length < N →
      body.wpIn (F.inRound l) (n - 1 - 1) P (ownPostG w.heap.size KeepsWalks I Ix (pre ++ [x]) W) { tmps := (a.tmps.setIfInBounds tv (ev x)).setIfInBounds tb (.pointer (some ⟨Bp, 0, none⟩)), defers := [] } W)
    (hdone : ∀ (D : Nat) (xs : List α) (W : World), w.heap.size ≤ D → S xs → I xs W → W.heap[D]? = some (.deferred (some [])) → Q .normal { a with defers := { target := .collected D, args := #[] } :: a.defers } W)
    (hstop : ∀ (D : Nat) (c : Code) (pre : List α) (W : World), w.heap.size ≤ D → Sp pre → Ix c pre W → W.heap[D]? = some (.deferred (some [])) → c.wpIn F n P Q { a with defers := { target := .collected D, args := #[] } :: a.defers } W) :
    (Code.rangeFunc g #[tv] assign body).wpIn F n P Q a w := by
  refine wpIn_rangeFunc_ownH hro h1 hg hFg eg hseq walksK_t walksK_b hb0 (fun _ => rfl) I Ix hI hIx h0
    (fun x a' W => ∃ Bp, w.heap.size ≤ Bp ∧ Blk W Bp tt (bx x) ∧ a' = { tmps := (a.tmps.setIfInBounds tv (ev x)).setIfInBounds tb (.pointer (some ⟨Bp, 0, none⟩)), defers := [] })
    ?_ ?_ ?_ hdone hstop
  · rintro x a' _ X Y row ⟨Bp, h1, h2, h3⟩ hg' hr
    exact ⟨Bp, h1, blk_own Bp tt (fun _ : Unit => bx x) () X Y row h2 hg' (fun r e => (hr r e).2), h3⟩
  · intro l pre x W K hi hK
    have e : ((#[tv] : Array Tmp).zip #[ev x]).foldl (fun t (p, v) => t.setIfInBounds p v) a.tmps = a.tmps.setIfInBounds tv (ev x) := by simp
    rw [e]
    refine hassign l x W K (hK _ _ ((KeepsOthers.alloc W _).from _) ?_ (hI.alloc _ hi) ⟨W.heap.size, hIs _ _ hi, Blk.new _ _ _, rfl⟩)
    exact KeepsWalks.alloc W _
  · rintro l pre x a' W hl hr hi ⟨Bp, h1, h2, rfl⟩ hN
    exact hbody l pre x Bp W hl hr hi h1 h2 hN
end
/-- a range over a map of purses under way -/
def PRng (W : World) (m r N : Nat) (ps qs : List Pu) (cnt : Nat) : Prop := ∃ (D : DataW Unit) (left : Lit → Bool), W.ranges Tryz.prog 3 puR m r N D left cnt ∧ (∀ q, q ∈ ps → ∀ z, D.atKey (.int .i64 q.owner) z = puD q) ∧ (∀ x : Int, left (.int .i64 x) = qs.any fun p => p.owner == x) ∧ ∀ q ∈ qs, q ∈ ps
theorem PRng.left_eq {W : World} {m r N : Nat} {ps qs : List Pu} {cnt : Nat} (h : PRng W m r N ps qs cnt) : W.rangeLeft m r = cnt := by
  obtain ⟨D, left, h1, _⟩ := h
  exact h1.left_eq
theorem PRng.kept {W W' : World} {m r N : Nat} {ps qs : List Pu} {cnt : Nat} (h : PRng W m r N ps qs cnt) (hk : KeepsWalks W W') : PRng W' m r N ps qs cnt := by
  obtain ⟨D, left, h1, h2⟩ := h
  exact ⟨D, left, h1.of_walks hk, h2⟩
theorem PRng.walk {W : World} {m r N : Nat} {ps qs : List Pu} {cnt : Nat} (h : PRng W m r N ps qs cnt) : ∃ o : Obj, W.heap[r]? = some o ∧ o.isWalk = true := by
  obtain ⟨D, left, ⟨es, clock, since, seen, c0, hb, F, hs, hD, hr, _⟩, _⟩ := h
  exact ⟨_, hr, rfl⟩
section
variable {F : Fence} {n : Nat} {ops : Array Oper} {rest : List Oper} {o : Oper} {a : Act} {Q : Exit → Act → World → Prop}
set_option maxRecDepth 100000 in
theorem wpListIn_range_pu (w : World) (hg : o.guard = none) (mo : Operand) (hop : o.op = Op.range 93 mo) {m N : Nat} {ps : List Pu} (hm : a.eval mo = .map (some m)) (hw : PuM w m N ps)
    (hK : ∀ w', PRng w' m w.heap.size N ps ps (w'.rangeLeft m w.heap.size) → w.grownBy w' none → w'.heap.size = w.heap.size + 1 → wpListIn F n Tryz.prog ops Q rest (a.put o.dst (.pointer (some ⟨w.heap.size, 0, none⟩))) w') :
    wpListIn F n Tryz.prog ops Q (o :: rest) a w := by
  obtain ⟨D, h1, h2, h3⟩ := hw
  refine wpListIn_range_own w hg mo 93 hop 3 47 law3 Tryz.underlying93 puR m N D hm h1 (fun w' hr hgr hsz => hK w' ?_ hgr hsz)
  exact ⟨D, _, by rw [hr.left_eq]; exact hr, h3, h2, fun q h => h⟩
set_option maxRecDepth 100000 in
theorem wpListIn_next_pu (w : World) (hg : o.guard = none) (it : Operand) (hop : o.op = Op.next it false) {m r N : Nat} {ps qs : List Pu} {cnt : Nat} (hit : a.eval it = .pointer (some ⟨r, 0, none⟩)) (h : PRng w m r N ps qs cnt)
    (hDone : qs = [] → wpListIn F n Tryz.prog ops Q rest (a.put o.dst (.tuple #[.bool false])) w)
    (hMore : ∀ q : Pu, q ∈ qs → ∀ w' cnt', PRng w' m r N ps (qs.filter fun p => p.owner != q.owner) cnt' → cnt' < cnt → w.grownBy w' (some r) → w'.heap.size = w.heap.size → (Instr.entry (.pointer (some ⟨r, 0, none⟩))).run Tryz.prog w' = .ok (.tuple #[.int .i64 q.owner, .agg q.v]) w' → wpListIn F n Tryz.prog ops Q rest (a.put o.dst (.tuple #[.bool true, .int .i64 q.owner, .agg q.v])) w') :
    wpListIn F n Tryz.prog ops Q (o :: rest) a w := by
  obtain ⟨D, left, h1, h2, h3, h4⟩ := h
  refine wpListIn_next_ranges w hg it hop 3 law3 puR (Value.int .i64) (fun x : Pu => .agg x.v) (fun key kl hkey => by obtain ⟨x, rfl, _⟩ := Maps.keyOf_int_inv Tryz.underlying3 hkey; exact ⟨x, rfl⟩) (fun v y hv => by obtain ⟨c, rfl, _⟩ := puR_inv hv; exact ⟨c, rfl⟩) m r N D left cnt hit h1 (fun _ hl => hDone ?_) (fun x c kl y w' cnt' hkey hlx hR hat hr hlt hgr hsz hen => ?_)
  · rw [List.eq_nil_iff_forall_not_mem]
    intro q hq
    have e := h3 q.owner
    rw [hl] at e
    have e' := List.any_eq_false.1 e.symm q hq
    simp at e'
  · obtain ⟨x', hx', rfl, hwf⟩ := Maps.keyOf_int_inv Tryz.underlying3 hkey
    cases hx'
    rw [h3 x] at hlx
    obtain ⟨q, hq, hqx⟩ := List.any_eq_true.1 hlx
    have hqe : q.owner = x := by simpa using hqx
    rw [puR_mk] at hR
    have hy : y = (puD c, []) := by injection hR with hR; exact hR.symm
    have hc := h2 q (h4 q hq) .nil
    rw [hqe, hat, hy] at hc
    have hcq : c = q := puD_inj hc
    subst hcq
    subst hqe
    refine hMore c hq w' cnt' ⟨D, _, hr, h2, fun y => ?_, fun p hp => h4 p (List.mem_filter.1 hp).1⟩ hlt hgr hsz hen
    simp only [h3]
    have hsk : (Lit.int .i64 y).sameKey (.int .i64 c.owner) = (y == c.owner) := by
      have := WideAt.sameKey_iff (a := .int .i64 y) (b := .int .i64 c.owner) (law3.key (keyOf_int_mk Tryz.underlying3 hwf))
      by_cases e : y = c.owner
      · subst e
        rw [this.2 rfl]
        simp
      · have h9 : ¬ (Lit.int .i64 y).sameKey (.int .i64 c.owner) = true := fun hh => e (by have := this.1 hh; injection this)
        rw [Bool.not_eq_true] at h9
        rw [h9]
        simp [e]
    rw [hsk, List.any_filter]
    by_cases e : y = c.owner
    · subst e
      simp
    · have hb : (y == c.owner) = false := by simpa using e
      rw [hb]
      simp only [Bool.not_false, Bool.and_true]
      congr 1
      funext p
      by_cases e2 : p.owner = y
      · subst e2
        simp [e]
      · simp [e2]
end
theorem filter_permP {qs : List Pu} (hk : UniqP qs) {q : Pu} (hq : q ∈ qs) : qs.Perm (q :: qs.filter fun p => p.owner != q.owner) := by
  induction qs with
  | nil => simp at hq
  | cons a l ih =>
    have hk2 := List.pairwise_cons.1 hk
    rcases List.mem_cons.1 hq with rfl | hq
    · rw [List.filter_cons_of_neg (by simp)]
      have e : l.filter (fun p => p.owner != q.owner) = l := List.filter_eq_self.2 (fun p hp => by simpa using (hk2.1 p hp).symm)
      rw [e]
    · have hne : a.owner ≠ q.owner := hk2.1 q hq
      rw [List.filter_cons_of_pos (by simpa using hne)]
      exact ((ih hk2.2 hq).cons a).trans (List.Perm.swap ..)
set_option maxRecDepth 100000 in
set_option maxHeartbeats 4000000 in
theorem pvals_in (n : Nat) (hn : 1 ≤ n) (l Bm m N : Nat) (ps : List Pu) (hd : UniqP ps) (J Jx : List Pu → World → Prop)
    (W : World) (hJ : AbidesFrom W.heap.size J)
    (hY : ∀ pre x W1, J pre W1 → pre.length < ps.length → YieldAt Fence.wide (n - 1) Tryz.prog l #[.agg x.v] W1 fun e W' => (e = .returned (.bool true) ∧ J (pre ++ [x]) W' ∧ KeepsWalks W1 W') ∨ (e = .returned (.bool false) ∧ Jx (pre ++ [x]) W'))
    (hBm : Blk W Bm 93 #[.map (some m)]) (hm : PuM W m N ps) (h0 : J [] W) :
    CallsIn Fence.wide n Tryz.prog 81 #[.func (.yield l) #[] #[], .pointer (some ⟨Bm, 0, none⟩)] W fun e W' => (∃ v, e = .returned v) ∧ ((∃ xs : List Pu, xs.Perm ps ∧ J xs W') ∨ (∃ pre, True ∧ Jx pre W')) := by
  have m0 := hBm.cell 0
  have lB := hBm.lt
  refine callsIn_of_wp Tryz.func81 rfl trivial ?_ rfl
  simp only [Tryz.ntmps81, List.size_toArray, List.length_cons, List.length_nil, Nat.reduceAdd, Nat.reduceSub, Array.replicate_succ, Array.replicate_zero, List.push_toArray, List.append_toArray, List.nil_append, List.cons_append]
  gi_wp2_with (first | (gi_at_range; refine wpListIn_range_pu _ rfl _ rfl rfl hm ?_; intro w0 hrg0 hg0 hs0) | gi_in)
  go_frame
  have HY := Lib.hid hY
  clear hY hm m0 lB
  gi_loopw [4] (fun _ wr => ∃ (xs qs : List Pu) (cnt : Nat), PRng wr m W.heap.size N ps qs cnt ∧ Hid ((xs ++ qs).Perm ps) ∧ Hid (UniqP qs) ∧ Hid (J xs wr)) (fun _ wr => wr.rangeLeft m W.heap.size)
  case atStart => exact ⟨[], ps, _, hrg0, by show ([] ++ ps).Perm ps; exact List.Perm.refl _, hd, hJ _ _ _ none h0 hg0 (fun r e => by cases e)⟩
  case round =>
    clear hrg0
    obtain ⟨xs, qs, cnt, hrg, HP, HU, HJ⟩ := hrel
    obtain ⟨wo, rfl⟩ : ∃ wo, wo = wr := ⟨_, rfl⟩
    gi_wp2_with (first | (gi_at_next; refine wpListIn_next_pu _ rfl _ rfl rfl hrg ?_ ?_) | gi_in)
    · intro h0
      subst h0
      gi_wp2_with gi_in
      go_end0
      have := HP.out
      rw [List.append_nil] at this
      exact ⟨⟨_, rfl⟩, .inl ⟨xs, this, HJ.out⟩⟩
    · intro q hq w5 cnt5 hrg5 hlt5 hg5 hs5 hen
      have hj5 := hJ _ _ _ (some W.heap.size) HJ.out hg5 (fun r e => by cases e; exact ⟨Nat.le_refl _, hrg.walk⟩)
      have hfp := filter_permP HU.out hq
      have hlen : xs.length < ps.length := by
        have := HP.out.length_eq
        rw [List.length_append] at this
        have h2 : 0 < qs.length := List.length_pos_of_mem hq
        omega
      have HP2 : Hid ((xs ++ [q] ++ qs.filter fun p => p.owner != q.owner).Perm ps) := by
        refine List.Perm.trans ?_ HP.out
        rw [List.append_assoc]
        exact List.Perm.append_left _ hfp.symm
      have HU2 := Lib.hid (show UniqP (qs.filter fun p => p.owner != q.owner) from List.Pairwise.filter _ HU.out)
      have hj6 := hJ _ _ _ none hj5 (World.grownBy_alloc w5 (.cells q.v 47) none) (fun r e => by cases e)
      obtain ⟨fn, tmps, assign, body, hy', hR⟩ := HY.out xs q _ hj6 hlen
      have hR2 := Lib.hid hR
      have hrg6 := hrg5.kept (KeepsWalks.alloc w5 (.cells q.v 47))
      clear hR hfp hj5 hj6 hq hs5 hg5
      obtain ⟨qs', hqs'⟩ : ∃ qs', qs' = qs.filter fun p => p.owner != q.owner := ⟨_, rfl⟩
      rw [← hqs'] at hrg6 HP2 HU2
      clear hqs' hrg5
      obtain ⟨qo, qst, qp⟩ := q
      unfold Pu.v at *
      dsimp only at *
      gi_wp2_with gi_in
      refine hR2.out.mono ?_
      rintro e W3 (⟨rfl, hJ3, hk3⟩ | ⟨rfl, hJx3⟩)
      · gi_wp2_with gi_in
        go_roundw
        case rel => exact ⟨_, qs', cnt5, hrg6.kept hk3, HP2.out, HU2.out, hJ3⟩
        case measure => rw [(hrg6.kept hk3).left_eq, hrg.left_eq]; exact hlt5
      · gi_wp2_with gi_in
        refine bodyPost_ret (results_none rfl _ _ _) rfl ?_
        exact ⟨⟨_, rfl⟩, .inr ⟨_, trivial, hJx3⟩⟩
theorem pvals_stops (n : Nat) (hn : 1 ≤ n) (Bm m N : Nat) (ps : List Pu) (hd : UniqP ps) (w : World) (hBm : Blk w Bm 93 #[.map (some m)]) (hm : PuM w m N ps) :
    SeqStopsK Fence.wide n Tryz.prog 81 #[.pointer (some ⟨Bm, 0, none⟩)] (fun x : Pu => #[.agg x.v]) KeepsWalks (fun xs => xs.Perm ps) (fun _ => True) ps.length w :=
  fun l J Jx W hW hJ _ hY h0 => pvals_in n hn l Bm m N ps hd J Jx W hJ hY (hBm.keep hW) (hm.keep hW) h0
theorem pvalues_any (m : Nat) (w : World) : Calls Tryz.prog 55 #[.map (some m)] w fun e w' => e = .returned (.func (.func 81) #[] #[.pointer (some ⟨w.heap.size, 0, none⟩)]) ∧ w' = w.alloc (.cells #[.map (some m)] 93) := by
  go_enter Tryz.func55, Tryz.ntmps55
  go_wp2
  go_ret
  exact ⟨rfl, rfl⟩
def PApInv (w : World) (pre : List Pu) (W : World) : Prop :=
  ∃ v, Blk W w.heap.size 43 #[v] ∧ W.ownsRow (w.heap.size + 1) 47 3 v pre.length (puV pre) ∧ G w W ∧ w.heap.size + 1 ≤ W.heap.size
theorem papInv_own (w : World) (B : Nat) (hB : w.heap.size + 1 ≤ B) : OwnFrom B (PApInv w) := by
  rintro pre X Y row ⟨v, b1, hr, hG, hs⟩ hg hrow
  have hn : some w.heap.size ≠ row := fun e => by
    obtain ⟨_, o, ho, hc⟩ := hrow _ e.symm
    rw [show X.heap[w.heap.size]? = _ from b1] at ho; cases ho; cases hc
  exact ⟨v, b1.grown hg hn, ownsRow_kept' hr hg (fun r e => (hrow r e).2), (((G.fr (R := fun _ => False) hG).grown hg (fun g e => .inr (by have := (hrow g e).1; omega)))).toG (fun _ _ h => h), Nat.le_trans hs hg.size⟩
theorem info47 : (Tryz.prog.info? 47).map (fun i => (i.zero, i.size, i.bytes)) = some (some (.agg #[.int .i64 0, .int .i64 0, .int .i64 0]), 3, 24) := by kernel_rfl
set_option maxRecDepth 100000 in
set_option maxHeartbeats 4000000 in
theorem pappend_in (n : Nat) (hn : 3 ≤ n) (Bm m N : Nat) (ps : List Pu) (hd : UniqP ps) (hlen : ps.length ≤ 1000) (w : World) (hBm : Blk w Bm 93 #[.map (some m)]) (hm : PuM w m N ps) :
    CallsIn Fence.wide n Tryz.prog 103 #[.slice none 0 0, .func (.func 81) #[] #[.pointer (some ⟨Bm, 0, none⟩)]] w fun e w' =>
      ∃ v l, e = .returned v ∧ l.Perm ps ∧ w'.ownsRow w.heap.size 47 3 v l.length (puV l) ∧ G w w' := by
  refine callsIn_of_wp_marks Tryz.func103 rfl trivial ?_ rfl
  simp only [Tryz.ntmps103, List.size_toArray, List.length_cons, List.length_nil, Nat.reduceAdd, Nat.reduceSub, Array.replicate_succ, Array.replicate_zero, List.push_toArray, List.append_toArray, List.nil_append, List.cons_append]
  gi_wp2
  refine rangeFunc_boxW (F := Fence.wide) (α := Pu) (gf := 81) (lb := #[.pointer (some ⟨Bm, 0, none⟩)]) rfl (by omega) rfl trivial (enters_of Tryz.func81 (by kernel_rfl) rfl)
    (ev := fun x => .agg x.v) (pvals_stops (n - 1) (by omega) Bm m N ps hd (w.alloc (.cells #[.slice none 0 0] 43)) (hBm.alloc _) (hm.keep ((G.rf _).a _)))
    (Below.refl _ _) (PApInv w) (fun _ _ _ => False) (papInv_own _ _ (by simp)) (fun _ _ _ _ _ h _ _ => h) ?hIs ?h0 5 47 (fun x => x.v) ?assign ?body ?done ?stop
  case hIs =>
    rintro pre W ⟨v, _, _, _, hs⟩
    simpa using hs
  case h0 => exact ⟨_, Blk.new _ _ _, World.ownsRow_nil _ _ _ _, (G.rf _).a _, by simp⟩
  case assign =>
    intro l x W K hK
    unfold Pu.v at hK ⊢
    gi_wp2
    exact hK
  case body =>
    rintro l pre x Bp W hl hrec ⟨v, b1, hr, hG, hs⟩ hBp hbp hN
    obtain ⟨i0, hi0, hz0, hz1, hz2⟩ := info_parts info47
    have c0 := b1.cell 0
    have lA := b1.lt
    have nA := own_ne hr b1 (by decide)
    have hsn : puV (pre ++ [x]) = puV pre ++ puE x := puV_snoc pre x
    obtain ⟨xo, xs, xp⟩ := x
    unfold puE at hsn
    unfold Pu.v at *
    dsimp only at *
    have d0 := hbp.cell 0
    have d1 := hbp.cell 1
    have d2 := hbp.cell 2
    have lp := hbp.lt
    gi_wp2_with (gi_at_builtin; refine wpListIn_append_own _ rfl _ _ 43 rfl (w.heap.size + 1) 47 i0 (.agg #[.int .i64 0, .int .i64 0, .int .i64 0]) 3 24 Tryz.underlying43 hi0 hz0 hz1 hz2 rfl (by decide) _ _ _ rfl (hr.alloc _) ⟨W.heap.size, 0, none⟩ 1 1 [.int .i64 xo, .int .i64 xs, .int .i64 xp] rfl rfl (cell_new5 _ _ _) (by simp [Value.oneCell']) (by unfold maxLen; omega) (by omega) (by simp; omega) ?_; intro v' w3 hown' hg3 hnil3; have b3 := (b1.alloc (.cells #[.int .i64 xo, .int .i64 xs, .int .i64 xp] 47)).grown hg3 nA; have c3 := b3.cell 0; have z3 := b3.frozen 0; obtain ⟨g', cap', rfl⟩ : ∃ g' cap', v' = .slice (some ⟨g', 0, none⟩) (pre.length + 1) cap' := (by
         rcases hown'.2 with ⟨_, h0⟩ | ⟨g', cap', _, h1, _⟩
         · exact absurd h0 (by omega)
         · exact ⟨g', cap', h1⟩); go_frame)
    have bE := b3.set_ 0 (.slice (some ⟨g', 0, none⟩) (pre.length + 1) cap')
    have hownE := hown'.kept (grownBy_set w3 ⟨w.heap.size, 0, none⟩ (.slice (some ⟨g', 0, none⟩) (pre.length + 1) cap')) (.inr (own_ne hown' b3 (by decide)).symm)
    have frE : Fr (fun i => i = w.heap.size ∨ v.ownBlock = some i) W (w3.setCell ⟨w.heap.size, 0, none⟩ (.slice (some ⟨g', 0, none⟩) (pre.length + 1) cap')) :=
      (((Fr.rf _ W).a _).grown hg3 (fun g e => .inl (.inr e))).s (.inl (.inl rfl)) _
    generalize w3.setCell ⟨w.heap.size, 0, none⟩ (.slice (some ⟨g', 0, none⟩) (pre.length + 1) cap') = wE at *
    have hB3 : ∀ i, v.ownBlock = some i → w.heap.size + 1 ≤ i := fun i h => own_base hr h
    have hcs : ∀ i, (i = w.heap.size ∨ v.ownBlock = some i) → i < W.heap.size → ∃ c t f, W.heap[i]? = some (.cells c t f) := by
      rintro i (rfl | h) _
      · exact ⟨_, _, _, b1⟩
      · exact own_cells hr h
    refine ⟨frE.keeps hcs _, ⟨frE.size, fun i o hi ho => ?_⟩, ?_⟩
    · refine (frE.block i (Array.getElem?_eq_some_iff.1 hi).1 (fun e => ?_)).trans hi
      obtain ⟨c, t, f, h5⟩ := hcs i e (Array.getElem?_eq_some_iff.1 hi).1
      rw [h5] at hi
      cases hi
      cases ho
    · refine ⟨_, bE, by rw [List.length_append, hsn]; exact hownE, ((G.fr (R := fun _ => False) hG).t2 frE (fun i hi h => ?_)).toG (fun _ _ h => h), Nat.le_trans hs frE.size⟩
      rcases h with h | h
      · omega
      · have := hB3 _ h; omega
  case done =>
    rintro D xs W hD hS ⟨v, b1, hr, hG, hs⟩ hDef
    have c0 := b1.cell 0
    gi_wp2
    refine ⟨by simp, .inl ⟨_, _, rfl, run_takeDeferred hDef, ?_⟩⟩
    refine ⟨_, results_tmp rfl _ _ _, _, xs, rfl, hS, ?_, ?_⟩
    · exact own_weaken (ownsRow_kept' (row := some D) hr ⟨rfl, rfl, rfl, by simp [World.putObj], fun i _ hn => World.putObj_heap_other (fun e => hn (by rw [e]))⟩ (fun r e => by cases e; exact ⟨_, hDef, rfl⟩)) (by omega)
    · have hf : Fr (fun i => i = D) W (W.putObj D (.deferred none)) := ⟨rfl, rfl, rfl, by simp [World.putObj], fun i _ hn => World.putObj_heap_other hn⟩
      refine ((G.fr (R := fun _ => False) hG).t2 hf (fun i hi h => ?_)).toG (fun _ _ h => h)
      simp at hD
      omega
  case stop =>
    rintro D c pre W _ _ h _
    exact h.elim
theorem pcollect_any (Bm m N : Nat) (ps : List Pu) (hd : UniqP ps) (hlen : ps.length ≤ 1000) (w : World) (hBm : Blk w Bm 93 #[.map (some m)]) (hm : PuM w m N ps) :
    Calls Tryz.prog 79 #[.func (.func 81) #[] #[.pointer (some ⟨Bm, 0, none⟩)]] w fun e w' => ∃ v l, e = .returned v ∧ l.Perm ps ∧ w'.ownsRow w.heap.size 47 3 v l.length (puV l) ∧ G w w' := by
  have HA := Lib.hid ((callsIn_wide (n := 3)).1 (pappend_in 3 (by omega) Bm m N ps hd hlen w hBm hm))
  go_enter Tryz.func79, Tryz.ntmps79
  go_wp2_with (go_at_call 103; refine HA.out.mono ?_; rintro e w1 ⟨v, l, rfl, hp, ho, hG⟩)
  go_ret
  exact ⟨v, l, rfl, hp, ho, hG⟩
theorem srtP_perm_eq {l ps : List Pu} (hd : UniqP ps) (hp : l.Perm ps) : srtP l = srtP ps := (srtP_unique hd ((srtP_perm l).trans hp) (srtP_pw l))
theorem uniqP_perm {l ps : List Pu} (hd : UniqP ps) (hp : l.Perm ps) : UniqP l := (hp.pairwise_iff (fun h e => h e.symm)).2 hd
/-- slices.SortedFunc at the purses of a map -/
theorem psorted_any (Bm m N : Nat) (ps : List Pu) (hd : UniqP ps) (hlen : ps.length ≤ 1000) (w : World) (hBm : Blk w Bm 93 #[.map (some m)]) (hm : PuM w m N ps) :
    Calls Tryz.prog 54 #[.func (.func 81) #[] #[.pointer (some ⟨Bm, 0, none⟩)], .func (.func 56) #[] #[]] w fun e w' => ∃ v, e = .returned v ∧ w'.ownsRow w.heap.size 47 3 v ps.length (puV (srtP ps)) ∧ G w w' := by
  have HC := Lib.hid (pcollect_any Bm m N ps hd hlen w hBm hm)
  have HL := Lib.hid hlen
  have HD := Lib.hid hd
  clear hd hlen hm
  go_enter Tryz.func54, Tryz.ntmps54
  go_wp2_with (first | (go_at_call 79; refine HC.out.mono ?_; rintro e w1 ⟨v, l, rfl, hp, ho, hG⟩) | (go_at_call 80; refine (sortP_own l (uniqP_perm HD.out hp) (by rw [hp.length_eq]; exact HL.out) _ _ _ ho).mono ?_; rintro e w2 ⟨rfl, ho2, hg2⟩))
  go_ret
  exact ⟨v, rfl, by rw [← hp.length_eq, ← srtP_perm_eq HD.out hp]; exact ho2, grow_own hG ho (Nat.le_refl _) hg2⟩
end Go.Proofs.YtnkmcoljijmgpaaGreat
