import Derived.Shelf.SlSortCmp.NoneTotal
import Derived.Shelf.SlSortCmp.WholeK
import Derived.Ground.SlsfProg
import Derived.Test.YtnkmcoljijmgpaaGreatBn
set_option linter.unusedSimpArgs false
set_option linter.unusedVariables false
namespace Go.Proofs.YtnkmcoljijmgpaaGreat
open Go.RowKit Go.Shelf Go.Sort
attribute [local go_sem] Oper.semAt_some
/-- a purse -/
structure Pu where
  owner : Int
  staked : Int
  paid : Int
instance : Inhabited Pu := ⟨⟨0, 0, 0⟩⟩
def Pu.v (x : Pu) : Array Value := #[.int .i64 x.owner, .int .i64 x.staked, .int .i64 x.paid]
theorem Pu.vs (x : Pu) : x.v.size = 3 := rfl
def ownC (x y : Pu) : Int := cmpI x.owner y.owner
set_option maxHeartbeats 1000000 in
theorem closure56 (x y : Pu) (W : World) : Calls Tryz.prog 56 #[.agg x.v, .agg y.v] W fun e w' => e = .returned (.int .i64 (ownC x y)) ∧ ∃ q os', w' = grow (W.drewN q) os' := by
  have hcon := fun W' => cmp_any x.owner y.owner W'
  unfold ownC
  generalize cmpI x.owner y.owner = r at hcon ⊢
  obtain ⟨xb, xo, xr⟩ := x
  obtain ⟨yb, yo, yr⟩ := y
  unfold Pu.v
  dsimp only at *
  go_enter Tryz.func56, Tryz.ntmps56
  go_wp2_with (go_at_call 57; refine (hcon _).mono ?_; rintro e w' ⟨rfl, rfl⟩)
  go_ret
  exact ⟨rfl, 0, _, by rw [alloc_eq_grow, alloc_eq_grow, grow_grow]; rfl⟩
/-- a racer's cells -/
def puE (x : Pu) : List Value := x.v.toList
def puV (l : List Pu) : List Value := l.flatMap puE
theorem puE_len (x : Pu) : (puE x).length = 3 := rfl
theorem puV_len (l : List Pu) : (puV l).length = l.length * 3 := by
  induction l with
  | nil => rfl
  | cons x l ih => simp only [puV, List.flatMap_cons, List.length_append, puE_len, List.length_cons] at *; omega
theorem puV_snoc (l : List Pu) (x : Pu) : puV (l ++ [x]) = puV l ++ puE x := by simp [puV]
theorem puV_get (l : List Pu) {i r : Nat} (hi : i < l.length) (hr : r < 3) : (puV l)[i * 3 + r]? = (puE (l.getD i default))[r]? := by
  induction l generalizing i with
  | nil => simp at hi
  | cons x l ih =>
    simp only [puV, List.flatMap_cons] at *
    cases i with
    | zero => rw [Nat.zero_mul, Nat.zero_add, List.getElem?_append_left (by rw [puE_len]; exact hr)]; rfl
    | succ i =>
      rw [List.getElem?_append_right (by rw [puE_len]; omega), puE_len, show (i + 1) * 3 + r - 3 = i * 3 + r by omega]
      rw [ih (by simpa using hi)]
      simp
theorem flat_pu (l : List Pu) : (flatK puE 3 l.toArray).toList = puV l := by
  apply List.ext_getElem?
  intro t
  by_cases ht : t < l.length * 3
  · have e := puV_get l (i := t / 3) (r := t % 3) (by omega) (by omega)
    rw [show t / 3 * 3 + t % 3 = t by omega] at e
    rw [e]
    have h2 := get_flatK puE 3 l.toArray t (by simpa using ht)
    have hs : t < (flatK puE 3 l.toArray).size := by simpa using ht
    rw [getElem!_pos (flatK puE 3 l.toArray) t hs] at h2
    have hq : t / 3 < l.length := by omega
    have h3 : (l.toArray)[t / 3]! = l.getD (t / 3) default := by
      rw [getElem!_pos l.toArray (t / 3) (by simpa using hq)]
      simp [List.getD_eq_getElem?_getD, hq]
    rw [h3] at h2
    have hr : t % 3 < (puE (l.getD (t / 3) default)).length := by rw [puE_len]; omega
    rw [getElem!_pos (puE (l.getD (t / 3) default)) (t % 3) hr] at h2
    rw [List.getElem?_eq_getElem (by simpa using hs), List.getElem?_eq_getElem hr, ← h2]
    simp
  · rw [List.getElem?_eq_none (by simp; omega), List.getElem?_eq_none (by rw [puV_len]; omega)]
theorem holds_pu {W : World} {g n : Nat} {cur : Array Value} {l : List Pu} (hb : W.heap[g]? = some (.cells cur 47 (0, 0))) (ht : cur.toList.take (l.length * 3) = puV l) : HoldsK puE 3 W g 0 l.toArray := by
  intro j hj
  have hj' : j < l.length * 3 := by simpa using hj
  refine ⟨?_, by simp [World.frozen?, hb]⟩
  have h1 : (cur.toList.take (l.length * 3))[j]? = ((flatK puE 3 l.toArray).toList)[j]? := by rw [ht, flat_pu]
  rw [List.getElem?_take_of_lt hj'] at h1
  simp only [World.cell?, hb, Nat.zero_add]
  simp only [Option.isSome_none, Bool.false_eq_true, if_false]
  rw [← Array.getElem?_toList, h1, Array.getElem?_toList]
  rw [getElem!_pos (flatK puE 3 l.toArray) j hj]
  simp only [id]
  exact Array.getElem?_eq_getElem hj
/-- behind the sort the same slice owns what was sorted -/
theorem own_srtP {w : World} {base g cap n : Nat} {os : Array Obj} {cur : Array Value} {l l' : List Pu} (hl : l'.length = l.length) (hbase : base ≤ g) (hb : w.heap[g]? = some (.cells cur 47 (0, 0)))
    (h1 : l.length ≤ cap) (h2 : cap ≤ maxLen) (h3 : cur.size = cap * 3) :
    (sortWorldK puE 3 w g 0 n l'.toArray os).ownsRow base 47 3 (.slice (some ⟨g, 0, none⟩) l.length cap) l.length (puV l') := by
  unfold sortWorldK putRowK
  have hF : (flatK puE 3 l'.toArray).size = l.length * 3 := by simp [hl]
  refine ⟨by rw [puV_len, hl], .inr ⟨g, cap, _, rfl, hbase, heap_srt _ hb, h1, h2, by simp [putCells, h3], ?_⟩⟩
  rw [← hF, take_putFlat _ _ (by rw [hF, h3]; omega), flat_pu]
/-- sorted by ring -/
def srtP (l : List Pu) : List Pu := l.mergeSort fun x y => decide (x.owner ≤ y.owner)
theorem srtP_len (l : List Pu) : (srtP l).length = l.length := by simp [srtP]
theorem srtP_perm (l : List Pu) : (srtP l).Perm l := List.mergeSort_perm _ _
theorem srtP_pw (l : List Pu) : (srtP l).Pairwise fun x y => x.owner ≤ y.owner := by
  have := List.pairwise_mergeSort (le := fun x y : Pu => decide (x.owner ≤ y.owner)) (fun a b c h1 h2 => by simp at *; omega) (fun a b => by simp; omega) l
  exact this.imp fun h => by simpa using h
/-- no two of one ring -/
def UniqP (l : List Pu) : Prop := l.Pairwise fun x y => x.owner ≠ y.owner
theorem uniqP_eq {l : List Pu} (h : UniqP l) {x y : Pu} (hx : x ∈ l) (hy : y ∈ l) (e : x.owner = y.owner) : x = y := by
  induction l with
  | nil => simp at hx
  | cons a l ih =>
    rw [UniqP, List.pairwise_cons] at h
    rcases List.mem_cons.1 hx with h1 | h1
    · rcases List.mem_cons.1 hy with h2 | h2
      · rw [h1, h2]
      · rw [h1] at e
        exact absurd e (h.1 y h2)
    · rcases List.mem_cons.1 hy with h2 | h2
      · rw [h2] at e
        exact absurd e.symm (h.1 x h1)
      · exact ih h.2 h1 h2
theorem srtP_unique {l l' : List Pu} (h : UniqP l) (hp : l'.Perm l) (hs : l'.Pairwise fun x y => x.owner ≤ y.owner) : l' = srtP l :=
  List.Perm.eq_of_pairwise (le := fun x y : Pu => x.owner ≤ y.owner) (fun a b ha hb h1 h2 => uniqP_eq h (hp.mem_iff.1 ha) ((srtP_perm l).mem_iff.1 hb) (by omega)) hs (srtP_pw l) (hp.trans (srtP_perm l).symm)
theorem ltOwn (x y : Pu) : decide (ownC x y < 0) = decide (x.owner < y.owner) := by
  unfold ownC cmpI
  by_cases h1 : x.owner < y.owner
  · simp [h1]
  · by_cases h2 : y.owner < x.owner <;> simp [h1, h2]
def Tryz.sortPu_ren : Go.Shelf.Ren := ⟨fun | 6 => 80 | 15 => 102 | 14 => 104 | 28 => 127 | 29 => 128 | 20 => 129 | 21 => 130 | 22 => 131 | 23 => 132 | 24 => 133 | 25 => 134 | 26 => 135 | 27 => 136 | 46 => 156 | 47 => 152 | 48 => 153 | 49 => 157 | 50 => 158 | 57 => 165 | n => n, fun | 22 => 43 | 24 => 47 | 25 => 100 | 3 => 3 | 39 => 72 | 0 => 0 | 53 => 156 | 55 => 158 | 4 => 4 | 46 => 149 | 45 => 148 | 50 => 153 | 5 => 5 | 9 => 9 | 66 => 172 | 70 => 176 | 76 => 182 | 77 => 183 | n => n, fun | n => n⟩
theorem Tryz.sortPu : Go.Proofs.SlLaysF0.n6 Tryz.prog Tryz.sortPu_ren := {
  mixed := by kernel_rfl,
  f6 := ⟨Tryz.f80.name, by decide, Tryz.func80.trans (congrArg some (by kernel_rfl))⟩,
  f14 := ⟨Tryz.f104.name, by decide, Tryz.func104.trans (congrArg some (by kernel_rfl))⟩,
  f15 := Tryz.func102.trans (congrArg some (by kernel_rfl)),
  f20 := ⟨Tryz.f129.name, by decide, Tryz.func129.trans (congrArg some (by kernel_rfl))⟩,
  f21 := ⟨Tryz.f130.name, by decide, Tryz.func130.trans (congrArg some (by kernel_rfl))⟩,
  f22 := ⟨Tryz.f131.name, by decide, Tryz.func131.trans (congrArg some (by kernel_rfl))⟩,
  f23 := ⟨Tryz.f132.name, by decide, Tryz.func132.trans (congrArg some (by kernel_rfl))⟩,
  f24 := ⟨Tryz.f133.name, by decide, Tryz.func133.trans (congrArg some (by kernel_rfl))⟩,
  f25 := ⟨Tryz.f134.name, by decide, Tryz.func134.trans (congrArg some (by kernel_rfl))⟩,
  f26 := ⟨Tryz.f135.name, by decide, Tryz.func135.trans (congrArg some (by kernel_rfl))⟩,
  f27 := ⟨Tryz.f136.name, by decide, Tryz.func136.trans (congrArg some (by kernel_rfl))⟩,
  f28 := Tryz.func127.trans (congrArg some (by kernel_rfl)),
  f29 := Tryz.func128.trans (congrArg some (by kernel_rfl)),
  f46 := ⟨Tryz.f156.name, by decide, Tryz.func156.trans (congrArg some (by kernel_rfl))⟩,
  f47 := Tryz.func152.trans (congrArg some (by kernel_rfl)),
  f48 := Tryz.func153.trans (congrArg some (by kernel_rfl)),
  f49 := ⟨Tryz.f157.name, by decide, Tryz.func157.trans (congrArg some (by kernel_rfl))⟩,
  f50 := ⟨Tryz.f158.name, by decide, Tryz.func158.trans (congrArg some (by kernel_rfl))⟩,
  f57 := ⟨Tryz.f165.name, by decide, Tryz.func165.trans (congrArg some (by kernel_rfl))⟩,
  t0 := Tryz.underlying0,
  a0 := Tryz.isAgg0,
  z0 := Tryz.sizeOf0,
  v0 := Tryz.zeroValue0,
  t3 := Tryz.underlying3,
  a3 := Tryz.isAgg3,
  z3 := Tryz.sizeOf3,
  v3 := Tryz.zeroValue3,
  t4 := Tryz.underlying4,
  a4 := Tryz.isAgg4,
  z4 := Tryz.sizeOf4,
  v4 := Tryz.zeroValue4,
  t5 := Tryz.underlying5,
  a5 := Tryz.isAgg5,
  z5 := Tryz.sizeOf5,
  v5 := Tryz.zeroValue5,
  t9 := Tryz.underlying9,
  a9 := Tryz.isAgg9,
  z9 := Tryz.sizeOf9,
  v9 := Tryz.zeroValue9,
  t22 := Tryz.underlying43,
  a22 := Tryz.isAgg43,
  z22 := Tryz.sizeOf43,
  v22 := Tryz.zeroValue43,
  t25 := Tryz.underlying100,
  a25 := Tryz.isAgg100,
  z25 := Tryz.sizeOf100,
  v25 := Tryz.zeroValue100,
  t39 := Tryz.underlying72,
  a39 := Tryz.isAgg72,
  z39 := Tryz.sizeOf72,
  v39 := Tryz.zeroValue72,
  t45 := Tryz.underlying148,
  a45 := Tryz.isAgg148,
  z45 := Tryz.sizeOf148,
  v45 := Tryz.zeroValue148,
  t46 := Tryz.underlying149,
  a46 := Tryz.isAgg149,
  z46 := Tryz.sizeOf149,
  v46 := Tryz.zeroValue149,
  t50 := Tryz.underlying153,
  a50 := Tryz.isAgg153,
  z50 := Tryz.sizeOf153,
  v50 := Tryz.zeroValue153,
  t53 := Tryz.underlying156,
  a53 := Tryz.isAgg156,
  z53 := Tryz.sizeOf156,
  v53 := Tryz.zeroValue156,
  t55 := Tryz.underlying158,
  a55 := Tryz.isAgg158,
  z55 := Tryz.sizeOf158,
  v55 := Tryz.zeroValue158,
  t66 := Tryz.underlying172,
  a66 := Tryz.isAgg172,
  z66 := Tryz.sizeOf172,
  v66 := Tryz.zeroValue172,
  t70 := Tryz.underlying176,
  a70 := Tryz.isAgg176,
  z70 := Tryz.sizeOf176,
  v70 := Tryz.zeroValue176,
  t76 := Tryz.underlying182,
  a76 := Tryz.isAgg182,
  z76 := Tryz.sizeOf182,
  v76 := Tryz.zeroValue182,
  t77 := Tryz.underlying183,
  a77 := Tryz.isAgg183,
  z77 := Tryz.sizeOf183,
  v77 := Tryz.zeroValue183 }
theorem swoOwn : SWO (ltOf ownC) where
  irrefl x := by rw [show ltOf ownC x x = _ from ltOwn x x]; simp
  trans x y z h1 h2 := by rw [show ltOf ownC x y = _ from ltOwn x y] at h1; rw [show ltOf ownC y z = _ from ltOwn y z] at h2; rw [show ltOf ownC x z = _ from ltOwn x z]; simp at *; omega
  ntrans x y z h1 h2 := by rw [show ltOf ownC x y = _ from ltOwn x y] at h1; rw [show ltOf ownC y z = _ from ltOwn y z] at h2; rw [show ltOf ownC x z = _ from ltOwn x z]; simp at *; omega
theorem srtP_of {l : List Pu} (hu : UniqP l) {d' : Array Pu} (hp : PermIn 0 l.toArray.size l.toArray d') (hs : SortedIn (ltOf ownC) 0 l.toArray.size d') : d' = (srtP l).toArray := by
  have e : d'.toList = srtP l := srtP_unique hu (by simpa using perm_toList hp) (by
    rw [List.pairwise_iff_getElem]
    intro i j hi hj hij
    have hsz : d'.size = l.toArray.size := hp.1
    have hi' : i < d'.size := by simpa using hi
    have hj' : j < d'.size := by simpa using hj
    have := hs i j (Nat.zero_le _) hij (by omega)
    rw [show ltOf ownC d'[j]! d'[i]! = _ from ltOwn _ _] at this
    rw [getElem!_pos d' j hj', getElem!_pos d' i hi'] at this
    simp at this
    simpa using this)
  rw [← e]
set_option maxRecDepth 100000 in
/-- slices.SortFunc by ring, at a row of one's own -/
theorem sortP_own (l : List Pu) (hu : UniqP l) (hl : l.length ≤ 1000) (W : World) (B : Nat) (v : Value) (h : W.ownsRow B 47 3 v l.length (puV l)) : Calls Tryz.prog 80 #[v, .func (.func 56) #[] #[]] W fun e w' => e = .returned (.tuple #[]) ∧ w'.ownsRow B 47 3 v l.length (puV (srtP l)) ∧ W.grownBy w' v.ownBlock := by
  rcases h.2 with ⟨rfl, h0⟩ | ⟨g, cap, cur, rfl, hb, hg, h1, h2, h3, h4⟩
  · have hl0 : l = [] := List.length_eq_zero_iff.1 h0
    subst hl0
    have hc := AnyF.slices_SortFunc_none Tryz.sortPu none 0 (.func (.func 56) #[] #[]) W
    change Calls Tryz.prog 80 _ _ _ at hc
    refine hc.mono ?_
    rintro e w' ⟨rfl, rfl⟩
    exact ⟨rfl, by rw [show srtP [] = [] by simp [srtP]]; exact h, World.grownBy.refl _ _⟩
  · have hlt : g < W.heap.size := (Array.getElem?_eq_some_iff.1 hg).1
    have hc := AnyQ.slices_SortFunc Tryz.sortPu 3 Tryz.isAgg47 Tryz.sizeOf47 puE puE_len (fun x v hv => by
      simp [puE, Pu.v] at hv
      rcases hv with rfl | rfl | rfl <;> rfl) ownC swoOwn 56 #[] g 0 cap l.toArray W (enters_of Tryz.func56 (by kernel_rfl) rfl) (fun m os dk _ x y => closure56 x y _) (holds_pu (n := 0) hg h4) hlt (by simp; omega)
    change Calls Tryz.prog 80 _ _ _ at hc
    rw [show l.toArray.size = l.length by simp] at hc
    refine hc.mono ?_
    rintro e w' ⟨rfl, d', n, os, hp, hs, rfl⟩
    have hd := srtP_of hu (by simpa using hp) (by simpa using hs)
    subst hd
    exact ⟨rfl, own_srtP (srtP_len l) hb hg h1 h2 h3, grownBy_srt _⟩
end Go.Proofs.YtnkmcoljijmgpaaGreat
