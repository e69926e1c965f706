import Derived.Below
import Derived.BigQuiet
import Derived.Deep.AppendLies
import Derived.Deep.Draws
import Derived.Deep.QuietTactic
import Derived.Deep.RegionHeld
import Derived.Deep.Slices
import Derived.Ground.Names2Prog
import Derived.Ground.SlsfProg
import Derived.Ground.SlsoProg
import Derived.IntWalk
import Derived.Laws.AppendOwn
import Derived.Laws.AppendOwnNone
import Derived.Laws.OwnMore
import Derived.Laws.Rows
import Derived.Laws.StructEq
import Derived.Lib.Hide
import Derived.Lib.SlKeysI
import Derived.Lib.SliceRun
import Derived.Lib.SmallJoins
import Derived.LoopIn
import Derived.LoopNIn
import Derived.Maps.OwnSet
import Derived.Maps.Views
import Derived.OpenShut
import Derived.OrdersHeld
import Derived.OrdersIn
import Derived.Outline
import Derived.OwnWalkIn
import Derived.ProofKit
import Derived.RangeFuncBound
import Derived.RangeFuncCalls
import Derived.RangeFuncLeaves
import Derived.RangeFuncNested
import Derived.Shelf.Abstract
import Derived.Shelf.GgSortFunc.InsertionK
import Derived.Shelf.RegionOpen
import Derived.Shelf.SlSortCmp.NoneTotal
import Derived.Shelf.SlSortCmp.WholeK
import Derived.Shelf.SlSorted.Search
import Derived.Shelf.Slices.Cells
import Derived.Shelf.Slices.CompactI
import Derived.Shelf.Slices.In.SortNone
import Derived.Shelf.Slices.SearchI
import Derived.Shelf.Small.Bits
import Derived.Shelf.Sort.Plain
import Derived.Shelf.Strconv.Itoa0
import Derived.Sort.Grow
import Derived.TacticsIn
import Derived.TacticsInMore
import Derived.Test.YtabnpimidhlbiaaGreatProg
import Derived.WalkKit
import Derived.WalkSpells
import Derived.Test.YtabnpimidhlbiaaGreatS2
set_option linter.unusedSimpArgs false
set_option linter.unusedVariables false
namespace Go.Proofs.YtabnpimidhlbiaaGreat
open Go.RowKit Go.Shelf Go.Sort
attribute [local go_sem] Oper.semAt_some
theorem info56 : (Tryz.prog.info? 56).map (fun i => (i.zero, i.size, i.bytes)) = some (some (.agg #[.int .i64 0, .int .i64 0, .int .i64 0, .int .i64 0]), 4, 32) := by kernel_rfl
def duE (x : Du) : List Value := x.v.toList
def duV (l : List Du) : List Value := l.flatMap duE
theorem duE_len (x : Du) : (duE x).length = 4 := rfl
theorem duV_len (l : List Du) : (duV l).length = l.length * 4 := by
  induction l with
  | nil => rfl
  | cons x l ih => simp only [duV, List.flatMap_cons, List.length_append, duE_len, List.length_cons] at *; omega
theorem duV_get (l : List Du) {i r : Nat} (hi : i < l.length) (hr : r < 4) : (duV l)[i * 4 + r]? = (duE (l.getD i default))[r]? := by
  induction l generalizing i with
  | nil => simp at hi
  | cons x l ih =>
    simp only [duV, List.flatMap_cons] at *
    cases i with
    | zero => rw [Nat.zero_mul, Nat.zero_add, List.getElem?_append_left (by rw [duE_len]; exact hr)]; rfl
    | succ i =>
      rw [List.getElem?_append_right (by rw [duE_len]; omega), duE_len, show (i + 1) * 4 + r - 4 = i * 4 + r by omega]
      rw [ih (by simpa using hi)]
      simp
theorem own_du {W : World} {B : Nat} {T : TypeId} {u : Value} {l : List Du} (h : W.ownsRow B T 4 u l.length (duV l)) : ∃ a c, u = .slice a l.length c ∧ RowE Du.v 4 W a l := by
  rcases h.2 with ⟨rfl, h0⟩ | ⟨g, cap, cur, rfl, hb, hg, h1, h2, h3, h4⟩
  · exact ⟨none, 0, by rw [h0], .inl h0⟩
  · refine ⟨_, _, rfl, .inr ⟨g, 0, rfl, (Array.getElem?_eq_some_iff.1 hg).1, fun i hi r hr => ?_⟩⟩
    have e := duV_get l hi hr
    have hB : Blk W g T cur := hg
    have hlt : i * 4 + r < l.length * 4 := by omega
    rw [show 0 + i * 4 + r = i * 4 + r by omega, hB.cell, ← Array.getElem?_toList]
    have h5 : (cur.toList.take (l.length * 4))[i * 4 + r]? = (duV l)[i * 4 + r]? := by rw [h4]
    rw [List.getElem?_take_of_lt hlt] at h5
    rw [h5, e, duE, Array.getElem?_toList]
set_option maxRecDepth 100000 in
/-- append of a row of duties to a row of one's own -/
theorem app56 {W : World} (base n : Nat) (xs : List Value) (v : Value) (hown : W.ownsRow base 56 4 v n xs) (ra : Option Addr) (M : List Du) (c : Nat) (hra : ra = none → c = 0 ∧ M.length = 0) (hrow : RowE Du.v 4 W ra M) (hn : n + M.length ≤ 4000) (hb : base ≤ W.heap.size) (ty : TypeId) :
    ∃ v' W', (Builtin.append_ #[23, 23] ty #[v, .slice ra M.length c]).run Tryz.prog W = .ok v' W' ∧ W'.ownsRow base 56 4 v' (n + M.length) (xs ++ duV M) ∧ W.grownBy W' v.ownBlock := by
  obtain ⟨i0, hi0, hz0, hz1, hz2⟩ := info_parts info56
  cases ra with
  | none =>
    obtain ⟨rfl, h0⟩ := hra rfl
    obtain rfl : M = [] := List.length_eq_zero_iff.1 h0
    exact ⟨v, W, run_append_owned_none (P := Tryz.prog) W base 23 ty 56 i0 4 Tryz.underlying23 hi0 v n xs hown, by simpa [duV] using hown, World.grownBy.refl _ _⟩
  | some ad =>
    have hmax : n + M.length ≤ maxLen := Nat.le_trans hn (by decide)
    have hby : (n + M.length) * 32 ≤ 140737488355328 := by omega
    obtain ⟨v', W', h1, h2, h3, _⟩ := run_append_own (P := Tryz.prog) W base 23 ty 56 i0 _ 4 32 Tryz.underlying23 hi0 hz0 hz1 hz2 rfl (by decide) v n xs hown ad M.length c (duV M) (duV_len M) (fun j u hj => by
      rcases hrow with h | ⟨g, off, e, lg, hc⟩
      · obtain rfl : M = [] := List.length_eq_zero_iff.1 h
        simp [duV] at hj
      · injection e with e
        subst e
        have hjl : j < M.length * 4 := by
          have := (List.getElem?_eq_some_iff.1 hj).1
          rwa [duV_len] at this
        have h5 := hc (j / 4) (by omega) (j % 4) (by omega)
        have h6 := duV_get M (i := j / 4) (r := j % 4) (by omega) (by omega)
        rw [show j / 4 * 4 + j % 4 = j by omega] at h6
        rw [show off + j / 4 * 4 + j % 4 = off + j by omega] at h5
        rw [hj] at h6
        rw [add_off, h5, h6]
        simp [duE]) (fun u hu => by
      have : ∃ y : Du, u ∈ duE y := by
        simp only [duV, List.mem_flatMap] at hu
        obtain ⟨y, _, h⟩ := hu
        exact ⟨y, h⟩
      obtain ⟨y, hy⟩ := this
      simp [duE, Du.v] at hy
      rcases hy with rfl | rfl | rfl | rfl <;> rfl) hmax hby hb
    exact ⟨v', W', h1, h2, h3⟩
theorem wp_app56 {w : World} {o : Oper} {a : Act} {K : Act → World → Prop} {Q : Exit → Act → World → Prop} (s x : Operand)
    (ho : o.op = .call { callee := .builtin .append, args := #[s, x], argTypes := #[23, 23] }) (base n : Nat) (xs : List Value) (v : Value) (hs : a.eval s = v) (hown : w.ownsRow base 56 4 v n xs) (ra : Option Addr) (M : List Du) (c : Nat) (hx : a.eval x = .slice ra M.length c) (hra : ra = none → c = 0 ∧ M.length = 0) (hrow : RowE Du.v 4 w ra M) (hn : n + M.length ≤ 4000) (hb : base ≤ w.heap.size)
    (h : ∀ v' w', w'.ownsRow base 56 4 v' (n + M.length) (xs ++ duV M) → w.grownBy w' v.ownBlock → K (a.put o.dst v') w') : Oper.wp Tryz.prog o a w K Q := by
  obtain ⟨v', w', hrun, h2, h3⟩ := app56 base n xs v hown ra M c hra hrow hn hb o.type
  unfold Oper.wp
  simp [execOp, ho, resolve, invoke, builtin, hs, hx, hrun, Result.andThen]
  exact h v' w' h2 h3
/-- a nil row has no capacity -/
def Cv.Nil (c : Cv) : Prop := (c.aa = none → c.ac = 0) ∧ (c.da = none → c.dc = 0)
def CpcPost (c : Cv) (w : World) (e : Ending) (w' : World) : Prop :=
  G w w' ∧ ∃ aa ac da dc, e = .returned (.agg #[.int .i64 c.bks, .int .i64 c.bds, .slice aa c.acts.length ac, .slice da c.duties.length dc, .int .i64 c.en]) ∧ w'.ownsRow w.heap.size 54 8 (.slice aa c.acts.length ac) c.acts.length (acV c.acts) ∧ w'.ownsRow w.heap.size 56 4 (.slice da c.duties.length dc) c.duties.length (duV c.duties)
theorem res10 (tmps : Array Value) (w : World) (g : Nat) (v0 v1 v2 v3 v4 : Value) (h0 : ∃ x, v0 = .int .i64 x) (h1 : ∃ x, v1 = .int .i64 x) (h2 : ∃ a n c, v2 = .slice a n c) (h3 : ∃ a n c, v3 = .slice a n c) (h4 : ∃ x, v4 = .int .i64 x) (h : tmps.getD 2 undef = .pointer (some ⟨g, 0, none⟩)) (hB : Blk w g 25 #[v0, v1, v2, v3, v4]) :
    (results Tryz.f10 tmps).run Tryz.prog w = .ok (.agg #[v0, v1, v2, v3, v4]) w := by
  obtain ⟨x0, rfl⟩ := h0
  obtain ⟨x1, rfl⟩ := h1
  obtain ⟨a2, n2, c2, rfl⟩ := h2
  obtain ⟨a3, n3, c3, rfl⟩ := h3
  obtain ⟨x4, rfl⟩ := h4
  have c0 := hB.cell 0
  have c1 := hB.cell 1
  have c2 := hB.cell 2
  have c3 := hB.cell 3
  have c4 := hB.cell 4
  clear hB
  have hr : Tryz.f10.results = #[.cell 2 25] := rfl
  have h' : tmps[2]?.getD undef = .pointer (some ⟨g, 0, none⟩) := by simpa using h
  simp only [results, hr]
  go_simp
set_option maxRecDepth 100000 in
set_option maxHeartbeats 8000000 in
theorem Copyc_any (c : Cv) (w : World) (h : c.At w) (hn : c.Nil) : Calls Tryz.prog 10 #[.agg c.v] w (CpcPost c w) := by
  have HP : Hid (∀ w' aa ac da dc, G w w' → w'.ownsRow w.heap.size 54 8 (.slice aa c.acts.length ac) c.acts.length (acV c.acts) → w'.ownsRow w.heap.size 56 4 (.slice da c.duties.length dc) c.duties.length (duV c.duties) → CpcPost c w (.returned (.agg #[.int .i64 c.bks, .int .i64 c.bds, .slice aa c.acts.length ac, .slice da c.duties.length dc, .int .i64 c.en])) w') := fun w' aa ac da dc h1 h2 h3 => ⟨h1, aa, ac, da, dc, rfl, h2, h3⟩
  generalize CpcPost c w = PP at *
  have hra := h.ra
  have hrd := h.rd
  have hna := h.na
  have hnd := h.nd
  clear h
  obtain ⟨hn1, hn2⟩ := hn
  obtain ⟨ybks, ybds, yaa, yac, yacts, yda, ydc, yduties, yen⟩ := c
  unfold Cv.v
  dsimp only at *
  have hraA : yaa = none → yac = 0 ∧ yacts.length = 0 := fun h => ⟨hn1 h, by rcases hra with h9 | ⟨_, _, h9, _⟩; exact h9; rw [h] at h9; cases h9⟩
  have hraD : yda = none → ydc = 0 ∧ yduties.length = 0 := fun h => ⟨hn2 h, by rcases hrd with h9 | ⟨_, _, h9, _⟩; exact h9; rw [h] at h9; cases h9⟩
  have HRA := Lib.hid (fun (W : World) (hW : G w W) => hra.below hW)
  have HRD := Lib.hid (fun (W : World) (hW : G w W) => hrd.below hW)
  clear hn1 hn2 hra hrd
  have g0 : G w (((w.alloc (.cells #[.int .i64 ybks, .int .i64 ybds, .slice yaa yacts.length yac, .slice yda yduties.length ydc, .int .i64 yen] 25)).alloc (.cells #[.int .i64 0, .int .i64 0, .slice none 0 0, .slice none 0 0, .int .i64 0] 25)).alloc (.cells #[.int .i64 ybks, .int .i64 ybds, .slice yaa yacts.length yac, .slice yda yduties.length ydc, .int .i64 yen] 25)) := (((G.rf _).a _).a _).a _
  have bC : Blk (((w.alloc (.cells #[.int .i64 ybks, .int .i64 ybds, .slice yaa yacts.length yac, .slice yda yduties.length ydc, .int .i64 yen] 25)).alloc (.cells #[.int .i64 0, .int .i64 0, .slice none 0 0, .slice none 0 0, .int .i64 0] 25)).alloc (.cells #[.int .i64 ybks, .int .i64 ybds, .slice yaa yacts.length yac, .slice yda yduties.length ydc, .int .i64 yen] 25)) w.heap.size 25 #[.int .i64 ybks, .int .i64 ybds, .slice yaa yacts.length yac, .slice yda yduties.length ydc, .int .i64 yen] := ((Blk.new _ _ _).alloc _).alloc _
  have bR : Blk (((w.alloc (.cells #[.int .i64 ybks, .int .i64 ybds, .slice yaa yacts.length yac, .slice yda yduties.length ydc, .int .i64 yen] 25)).alloc (.cells #[.int .i64 0, .int .i64 0, .slice none 0 0, .slice none 0 0, .int .i64 0] 25)).alloc (.cells #[.int .i64 ybks, .int .i64 ybds, .slice yaa yacts.length yac, .slice yda yduties.length ydc, .int .i64 yen] 25)) (w.heap.size + 1) 25 #[.int .i64 0, .int .i64 0, .slice none 0 0, .slice none 0 0, .int .i64 0] := (Blk.new1 _ _ _ _).alloc _
  have bK : Blk (((w.alloc (.cells #[.int .i64 ybks, .int .i64 ybds, .slice yaa yacts.length yac, .slice yda yduties.length ydc, .int .i64 yen] 25)).alloc (.cells #[.int .i64 0, .int .i64 0, .slice none 0 0, .slice none 0 0, .int .i64 0] 25)).alloc (.cells #[.int .i64 ybks, .int .i64 ybds, .slice yaa yacts.length yac, .slice yda yduties.length ydc, .int .i64 yen] 25)) (w.heap.size + 1 + 1) 25 #[.int .i64 ybks, .int .i64 ybds, .slice yaa yacts.length yac, .slice yda yduties.length ydc, .int .i64 yen] := Blk.new2 _ _ _ _ _
  go_enter Tryz.func10, Tryz.ntmps10
  go_upto_region 2 with fail
  change Code.wp _ _ _ _ (((w.alloc (.cells #[.int .i64 ybks, .int .i64 ybds, .slice yaa yacts.length yac, .slice yda yduties.length ydc, .int .i64 yen] 25)).alloc (.cells #[.int .i64 0, .int .i64 0, .slice none 0 0, .slice none 0 0, .int .i64 0] 25)).alloc (.cells #[.int .i64 ybks, .int .i64 ybds, .slice yaa yacts.length yac, .slice yda yduties.length ydc, .int .i64 yen] 25))
  generalize (((w.alloc (.cells #[.int .i64 ybks, .int .i64 ybds, .slice yaa yacts.length yac, .slice yda yduties.length ydc, .int .i64 yen] 25)).alloc (.cells #[.int .i64 0, .int .i64 0, .slice none 0 0, .slice none 0 0, .int .i64 0] 25)).alloc (.cells #[.int .i64 ybks, .int .i64 ybds, .slice yaa yacts.length yac, .slice yda yduties.length ydc, .int .i64 yen] 25)) = W0 at *
  have HSK : Hid (∀ X, G W0 X → X.cell? ⟨w.heap.size, 2, none⟩ = some (.slice yaa yacts.length yac) ∧ X.cell? ⟨w.heap.size, 3, none⟩ = some (.slice yda yduties.length ydc) ∧ w.heap.size < X.heap.size) := fun X hX => ⟨(bC.keep hX).cell 2, (bC.keep hX).cell 3, (bC.keep hX).lt⟩
  have HBC := Lib.hid bC
  have HBR := Lib.hid bR
  have HBK := Lib.hid bK
  have hlK : w.heap.size + 1 + 1 < W0.heap.size := bK.lt
  clear bC bR bK
  refine wp_region_Y (S := fun X => X.cell? ⟨w.heap.size, 2, none⟩ = some (.slice yaa yacts.length yac) ∧ X.cell? ⟨w.heap.size, 3, none⟩ = some (.slice yda yduties.length ydc) ∧ w.heap.size < X.heap.size) 11 12 rfl (by kernel_rfl) (HSK.out _ (G.rf W0).d) (fun hS => ?_)
  have gX : G W0 W0.drew := (G.rf W0).d
  have hzX := gX.size
  generalize W0.drew = X at *
  refine wpAnyY_take (i := 1) (v := ?_) rfl (by kernel_rfl) (by kernel_rfl) (by kernel_rfl) (by kernel_rfl) (fun _ _ _ h => h) (Or.inl ⟨by kernel_rfl, ?_⟩) hS ?_
  rotate_left
  · intro w' hSw; obtain ⟨s2, s3, sl⟩ := hSw; go_simp; with_reducible rfl
  try simp only [Act.put, zzA, zzB, zzC, zzD, zzE, zzF]
  refine wpAnyY_take (i := 2) (v := ?_) rfl (by kernel_rfl) (by kernel_rfl) (by kernel_rfl) (by kernel_rfl) (fun _ _ _ h => h) (Or.inl ⟨by kernel_rfl, ?_⟩) hS ?_
  rotate_left
  · intro w' hSw; obtain ⟨s2, s3, sl⟩ := hSw; go_simp; with_reducible rfl
  try simp only [Act.put, zzA, zzB, zzC, zzD, zzE, zzF]
  refine wpAnyY_take (i := 5) (v := ?_) rfl (by kernel_rfl) (by kernel_rfl) (by kernel_rfl) (by kernel_rfl) (fun _ _ _ h => h) (Or.inl ⟨by kernel_rfl, ?_⟩) hS ?_
  rotate_left
  · intro w' hSw; obtain ⟨s2, s3, sl⟩ := hSw; go_simp; with_reducible rfl
  try simp only [Act.put, zzA, zzB, zzC, zzD, zzE, zzF]
  refine wpAnyY_take (i := 6) (v := ?_) rfl (by kernel_rfl) (by kernel_rfl) (by kernel_rfl) (by kernel_rfl) (fun _ _ _ h => h) (Or.inl ⟨by kernel_rfl, ?_⟩) hS ?_
  rotate_left
  · intro w' hSw; obtain ⟨s2, s3, sl⟩ := hSw; go_simp; with_reducible rfl
  try simp only [Act.put, zzA, zzB, zzC, zzD, zzE, zzF]
  refine wpAnyY_twoSW (i := 0) (j := 4) (by kernel_rfl) rfl rfl (by kernel_rfl) (by kernel_rfl) (fun K0 hK0 => ?_) (fun K4 hK4 => ?_)
  · go_simp
    refine hK0.out _ _ (HSK.out _ (gX.a _)) (fun hS => ?_)
    clear hK0
    try simp only [Act.put, zzA, zzB, zzC, zzD, zzE, zzF]
    have oA : (X.alloc (.cells #[] 54)).ownsRow X.heap.size 54 8 (.slice (some ⟨X.heap.size, 0, none⟩) 0 0) 0 [] := own_empty (Blk.new _ _ _) 8
    replace gX := gX.a (.cells #[] 54)
    obtain ⟨gA, hgA⟩ : ∃ g, g = X.heap.size := ⟨_, rfl⟩
    rw [← hgA] at oA ⊢
    have hzA : W0.heap.size ≤ gA := by rw [hgA]; exact hzX
    have hlA : gA < (X.alloc (.cells #[] 54)).heap.size := by rw [hgA, World.size_alloc]; exact Nat.lt_succ_self _
    clear hgA
    replace hzX : W0.heap.size ≤ (X.alloc (.cells #[] 54)).heap.size := Nat.le_of_lt (Nat.lt_of_le_of_lt hzA hlA)
    generalize X.alloc (.cells #[] 54) = X1 at *
    obtain ⟨X, rfl⟩ : ∃ x, x = X1 := ⟨_, rfl⟩
    refine wpAnyY_twoSW (i := 3) (j := 4) (by kernel_rfl) rfl rfl (by kernel_rfl) (by kernel_rfl) (fun K3 hK3 => ?_) (fun K4 hK4 => ?_)
    · refine wp_app54 _ _ rfl gA 0 _ (.slice (some ⟨gA, 0, none⟩) 0 0) rfl oA yaa yacts yac rfl hraA (HRA.out _ (g0.t gX)) (by omega) (Nat.le_of_lt hlA) ?_
      intro v3 X3 own3 gr3
      rw [show (Value.slice (some ⟨gA, 0, none⟩) 0 0).ownBlock = some gA from rfl] at gr3
      replace gX : G W0 X3 := ((G.fr (R := fun _ => False) gX).grown gr3 (fun g e => .inr (by injection e with e; omega))).toG (fun _ _ h => h)
      replace hzX := gX.size
      refine hK3.out _ _ (HSK.out _ gX) (fun hS => ?_)
      clear hK3
      try simp only [Act.put, zzA, zzB, zzC, zzD, zzE, zzF]
      have HOA : Hid (X3.ownsRow gA 54 8 v3 yacts.length (acV yacts)) := by
        show World.ownsRow _ _ _ _ _ _ _
        rw [Nat.zero_add, List.nil_append] at own3
        exact own3
      obtain ⟨ka, kc, rfl⟩ := own_slice HOA.out
      clear own3 gr3 oA hlA
      generalize X3 = X2 at *
      obtain ⟨X, rfl⟩ : ∃ x, x = X2 := ⟨_, rfl⟩
      refine wpAnyY_take (i := 8) (v := ?_) rfl (by kernel_rfl) (by kernel_rfl) (by kernel_rfl) (by kernel_rfl) (fun _ _ _ h => h) (Or.inl ⟨by kernel_rfl, ?_⟩) hS ?_
      rotate_left
      · intro w' hSw; go_simp; with_reducible rfl
      try simp only [Act.put, zzA, zzB, zzC, zzD, zzE, zzF]
      refine wpAnyY_oneSW (i := 4) (by kernel_rfl) rfl (by kernel_rfl) (fun K4 hK4 => ?_)
      go_simp
      refine hK4.out _ _ (HSK.out _ (gX.a _)) (fun hS => ?_)
      clear hK4
      try simp only [Act.put, zzA, zzB, zzC, zzD, zzE, zzF]
      have oD : (X.alloc (.cells #[] 56)).ownsRow X.heap.size 56 4 (.slice (some ⟨X.heap.size, 0, none⟩) 0 0) 0 [] := own_empty (Blk.new _ _ _) 4
      replace HOA := Lib.hid (own_G HOA.out ((G.rf X).a (.cells #[] 56)))
      replace gX := gX.a (.cells #[] 56)
      obtain ⟨gD, hgD⟩ : ∃ g, g = X.heap.size := ⟨_, rfl⟩
      rw [← hgD] at oD ⊢
      have hzD : W0.heap.size ≤ gD := by rw [hgD]; exact hzX
      have hlD : gD < (X.alloc (.cells #[] 56)).heap.size := by rw [hgD, World.size_alloc]; exact Nat.lt_succ_self _
      clear hgD
      replace hzX : W0.heap.size ≤ (X.alloc (.cells #[] 56)).heap.size := Nat.le_of_lt (Nat.lt_of_le_of_lt hzD hlD)
      generalize X.alloc (.cells #[] 56) = X1 at *
      obtain ⟨X, rfl⟩ : ∃ x, x = X1 := ⟨_, rfl⟩
      refine wpAnyY_oneSW (i := 7) (by kernel_rfl) rfl (by kernel_rfl) (fun K7 hK7 => ?_)
      refine wp_app56 _ _ rfl gD 0 _ (.slice (some ⟨gD, 0, none⟩) 0 0) rfl oD yda yduties ydc rfl hraD (HRD.out _ (g0.t gX)) (by omega) (Nat.le_of_lt hlD) ?_
      intro v7 X7 own7 gr7
      rw [show (Value.slice (some ⟨gD, 0, none⟩) 0 0).ownBlock = some gD from rfl] at gr7
      have hoo := own_own HOA.out oD (by decide)
      have F7 : Fr (fun g => g = gD) X X7 := (Fr.rf _ _).grown gr7 (fun g e => .inl (by injection e with e; exact e.symm))
      replace HOA := Lib.hid (own_Fr HOA.out F7 (fun g e he => by
        rcases hoo with h | h
        · rw [e] at h; cases h
        · exact h (by rw [e, he]; rfl)))
      replace gX : G W0 X7 := ((G.fr (R := fun _ => False) gX).grown gr7 (fun g e => .inr (by injection e with e; omega))).toG (fun _ _ h => h)
      refine hK7.out _ _ (HSK.out _ gX) (fun hS => ?_)
      clear hK7 F7 hoo
      try simp only [Act.put, zzA, zzB, zzC, zzD, zzE, zzF]
      have HOD : Hid (X7.ownsRow gD 56 4 v7 yduties.length (duV yduties)) := by
        show World.ownsRow _ _ _ _ _ _ _
        rw [Nat.zero_add, List.nil_append] at own7
        exact own7
      obtain ⟨kd, ke, rfl⟩ := own_slice HOD.out
      clear own7 gr7 oD hlD hzX
      have bC := HBC.out.keep gX
      have bK := HBK.out.keep gX
      have hC1 := (bC.far (p := ⟨w.heap.size + 1 + 1, 2, none⟩) (show w.heap.size ≠ w.heap.size + 1 + 1 by omega) (.slice ka yacts.length kc))
      have HS9 := Lib.hid (And.intro (hC1.cell 2) (And.intro (hC1.cell 3) hC1.lt))
      have k0 := bK.cell 0
      have k1 := bK.cell 1
      have k2 := bK.cell 2
      have k3 := bK.cell 3
      have k4 := bK.cell 4
      have kl := bK.lt
      have kf := bK.frozen 2
      have kf3 := (bK.set_ 2 (.slice ka yacts.length kc)).frozen 3
      have kl3 := (bK.set_ 2 (.slice ka yacts.length kc)).lt
      have k32 := (bK.set_ 2 (.slice ka yacts.length kc)).cell 3
      clear hC1
      refine wpAnyY_oneSW (i := 9) (by kernel_rfl) rfl (by kernel_rfl) (fun K9 hK9 => ?_)
      go_simp
      refine hK9.out _ _ HS9.out (fun hS => ?_)
      clear hK9
      try simp only [Act.put, zzA, zzB, zzC, zzD, zzE, zzF]
      refine wpAnyY_take (i := 10) (v := ?_) rfl (by kernel_rfl) (by kernel_rfl) (by kernel_rfl) (by kernel_rfl) (fun _ _ _ h => h) (Or.inl ⟨by kernel_rfl, ?_⟩) hS ?_
      rotate_left
      · intro w' hSw; go_simp; with_reducible rfl
      try simp only [Act.put, zzA, zzB, zzC, zzD, zzE, zzF]
      refine wpAnyY_oneW (i := 11) (by kernel_rfl) rfl (by kernel_rfl) (by kernel_rfl) (fun K11 hK11 => ?_)
      go_simp
      refine hK11.out _ _ ?_
      clear hK11
      try simp only [Act.put, zzA, zzB, zzC, zzD, zzE, zzF]
      refine wpAnyY_done (by kernel_rfl) ?_ _
      clear hS HS9 kf3 kl3 k32 k0 k1 k2 k3 k4 kl kf bC
      have bK2 := (bK.set_ 2 (.slice ka yacts.length kc)).set_ 3 (.slice kd yduties.length ke)
      simp only [List.setIfInBounds_toArray, List.set_cons_zero, List.set_cons_succ] at bK2
      have bR2 := ((HBR.out.keep gX).far (p := ⟨w.heap.size + 1 + 1, 2, none⟩) (show w.heap.size + 1 ≠ w.heap.size + 1 + 1 by omega) (.slice ka yacts.length kc)).far (p := ⟨w.heap.size + 1 + 1, 3, none⟩) (show w.heap.size + 1 ≠ w.heap.size + 1 + 1 by omega) (.slice kd yduties.length ke)
      have FK : Fr (fun g => g = w.heap.size + 1 + 1) X7 ((X7.setCell ⟨w.heap.size + 1 + 1, 2, none⟩ (.slice ka yacts.length kc)).setCell ⟨w.heap.size + 1 + 1, 3, none⟩ (.slice kd yduties.length ke)) := ((Fr.rf (fun g => g = w.heap.size + 1 + 1) X7).s (p := ⟨w.heap.size + 1 + 1, 2, none⟩) (.inl rfl) _).s (p := ⟨w.heap.size + 1 + 1, 3, none⟩) (.inl rfl) _
      have HOA2 := Lib.hid (own_Fr HOA.out FK (fun g e he => by have := own_base HOA.out e; omega))
      have HOD2 := Lib.hid (own_Fr HOD.out FK (fun g e he => by have := own_base HOD.out e; omega))
      have gY : G w ((X7.setCell ⟨w.heap.size + 1 + 1, 2, none⟩ (.slice ka yacts.length kc)).setCell ⟨w.heap.size + 1 + 1, 3, none⟩ (.slice kd yduties.length ke)) := ((g0.t gX).s (p := ⟨w.heap.size + 1 + 1, 2, none⟩) (show w.heap.size ≤ w.heap.size + 1 + 1 by omega) _).s (p := ⟨w.heap.size + 1 + 1, 3, none⟩) (show w.heap.size ≤ w.heap.size + 1 + 1 by omega) _
      clear FK HOA HOD bK gX
      generalize ((X7.setCell ⟨w.heap.size + 1 + 1, 2, none⟩ (.slice ka yacts.length kc)).setCell ⟨w.heap.size + 1 + 1, 3, none⟩ (.slice kd yduties.length ke)) = Y at *
      have e0 := bK2.cell 0
      have e1 := bK2.cell 1
      have e2 := bK2.cell 2
      have e3 := bK2.cell 3
      have e4 := bK2.cell 4
      have le := bK2.lt
      have r0 := bR2.cell 0
      have r1 := bR2.cell 1
      have r2 := bR2.cell 2
      have r3 := bR2.cell 3
      have r4 := bR2.cell 4
      have z0 := bR2.frozen 0
      have z1 := bR2.frozen 1
      have z2 := bR2.frozen 2
      have z3 := bR2.frozen 3
      have z4 := bR2.frozen 4
      have lr := bR2.lt
      have HBR2 := Lib.hid bR2
      clear bK2 bR2
      go_wp2_with fail
      have bF := ((((HBR2.out.set_ 0 (.int .i64 ybks)).set_ 1 (.int .i64 ybds)).set_ 2 (.slice ka yacts.length kc)).set_ 3 (.slice kd yduties.length ke)).set_ 4 (.int .i64 yen)
      simp only [List.setIfInBounds_toArray, List.set_cons_zero, List.set_cons_succ] at bF
      have FR : Fr (fun g => g = w.heap.size + 1) Y (((((Y.setCell ⟨w.heap.size + 1, 0, none⟩ (.int .i64 ybks)).setCell ⟨w.heap.size + 1, 1, none⟩ (.int .i64 ybds)).setCell ⟨w.heap.size + 1, 2, none⟩ (.slice ka yacts.length kc)).setCell ⟨w.heap.size + 1, 3, none⟩ (.slice kd yduties.length ke)).setCell ⟨w.heap.size + 1, 4, none⟩ (.int .i64 yen)) := (((((Fr.rf (fun g => g = w.heap.size + 1) Y).s (p := ⟨w.heap.size + 1, 0, none⟩) (.inl rfl) _).s (p := ⟨w.heap.size + 1, 1, none⟩) (.inl rfl) _).s (p := ⟨w.heap.size + 1, 2, none⟩) (.inl rfl) _).s (p := ⟨w.heap.size + 1, 3, none⟩) (.inl rfl) _).s (p := ⟨w.heap.size + 1, 4, none⟩) (.inl rfl) _
      have HF := Lib.hid (HP.out _ ka kc kd ke (((((gY.s (p := ⟨w.heap.size + 1, 0, none⟩) (Nat.le_succ _) (.int .i64 ybks)).s (p := ⟨w.heap.size + 1, 1, none⟩) (Nat.le_succ _) (.int .i64 ybds)).s (p := ⟨w.heap.size + 1, 2, none⟩) (Nat.le_succ _) (.slice ka yacts.length kc)).s (p := ⟨w.heap.size + 1, 3, none⟩) (Nat.le_succ _) (.slice kd yduties.length ke)).s (p := ⟨w.heap.size + 1, 4, none⟩) (Nat.le_succ _) (.int .i64 yen)) (own_weaken (own_Fr HOA2.out FR (fun g e he => by have := own_base HOA2.out e; omega)) (by omega)) (own_weaken (own_Fr HOD2.out FR (fun g e he => by have := own_base HOD2.out e; omega)) (by omega)))
      refine bodyPost_ret (res10 _ _ (w.heap.size + 1) _ _ _ _ _ ⟨_, rfl⟩ ⟨_, rfl⟩ ⟨_, _, _, rfl⟩ ⟨_, _, _, rfl⟩ ⟨_, rfl⟩ rfl bF) rfl ?_
      exact HF.out
    · go_simp
      refine hK4.out _ _ (HSK.out _ (gX.a _)) (fun hS => ?_)
      clear hK4
      try simp only [Act.put, zzA, zzB, zzC, zzD, zzE, zzF]
      have oD : (X.alloc (.cells #[] 56)).ownsRow X.heap.size 56 4 (.slice (some ⟨X.heap.size, 0, none⟩) 0 0) 0 [] := own_empty (Blk.new _ _ _) 4
      replace oA := own_G oA ((G.rf X).a (.cells #[] 56))
      replace gX := gX.a (.cells #[] 56)
      obtain ⟨gD, hgD⟩ : ∃ g, g = X.heap.size := ⟨_, rfl⟩
      rw [← hgD] at oD ⊢
      have hzD : W0.heap.size ≤ gD := by rw [hgD]; exact hzX
      have hlD : gD < (X.alloc (.cells #[] 56)).heap.size := by rw [hgD, World.size_alloc]; exact Nat.lt_succ_self _
      have hne : gA ≠ gD := by rw [hgD]; omega
      clear hgD
      replace hzX : W0.heap.size ≤ (X.alloc (.cells #[] 56)).heap.size := Nat.le_of_lt (Nat.lt_of_le_of_lt hzD hlD)
      replace hlA : gA < (X.alloc (.cells #[] 56)).heap.size := by rw [World.size_alloc]; omega
      generalize X.alloc (.cells #[] 56) = X1 at *
      obtain ⟨X, rfl⟩ : ∃ x, x = X1 := ⟨_, rfl⟩
      refine wpAnyY_oneSW (i := 3) (by kernel_rfl) rfl (by kernel_rfl) (fun K3 hK3 => ?_)
      refine wp_app54 _ _ rfl gA 0 _ (.slice (some ⟨gA, 0, none⟩) 0 0) rfl oA yaa yacts yac rfl hraA (HRA.out _ (g0.t gX)) (by omega) (Nat.le_of_lt hlA) ?_
      intro v3 X3 own3 gr3
      rw [show (Value.slice (some ⟨gA, 0, none⟩) 0 0).ownBlock = some gA from rfl] at gr3
      have F3 : Fr (fun g => g = gA) X X3 := (Fr.rf _ _).grown gr3 (fun g e => .inl (by injection e with e; exact e.symm))
      replace oD := own_Fr oD F3 (fun g e he => by injection e with e; exact hne (Eq.trans (Eq.symm he) e.symm))
      replace gX : G W0 X3 := ((G.fr (R := fun _ => False) gX).grown gr3 (fun g e => .inr (by injection e with e; omega))).toG (fun _ _ h => h)
      replace hzX := gX.size
      replace hlD := Nat.lt_of_lt_of_le hlD F3.size
      clear F3 hne
      refine hK3.out _ _ (HSK.out _ gX) (fun hS => ?_)
      clear hK3
      try simp only [Act.put, zzA, zzB, zzC, zzD, zzE, zzF]
      have HOA : Hid (X3.ownsRow gA 54 8 v3 yacts.length (acV yacts)) := by
        show World.ownsRow _ _ _ _ _ _ _
        rw [Nat.zero_add, List.nil_append] at own3
        exact own3
      obtain ⟨ka, kc, rfl⟩ := own_slice HOA.out
      clear own3 gr3 oA hlA
      generalize X3 = X2 at *
      obtain ⟨X, rfl⟩ : ∃ x, x = X2 := ⟨_, rfl⟩
      refine wpAnyY_take (i := 8) (v := ?_) rfl (by kernel_rfl) (by kernel_rfl) (by kernel_rfl) (by kernel_rfl) (fun _ _ _ h => h) (Or.inl ⟨by kernel_rfl, ?_⟩) hS ?_
      rotate_left
      · intro w' hSw; go_simp; with_reducible rfl
      try simp only [Act.put, zzA, zzB, zzC, zzD, zzE, zzF]
      refine wpAnyY_oneSW (i := 7) (by kernel_rfl) rfl (by kernel_rfl) (fun K7 hK7 => ?_)
      refine wp_app56 _ _ rfl gD 0 _ (.slice (some ⟨gD, 0, none⟩) 0 0) rfl oD yda yduties ydc rfl hraD (HRD.out _ (g0.t gX)) (by omega) (Nat.le_of_lt hlD) ?_
      intro v7 X7 own7 gr7
      rw [show (Value.slice (some ⟨gD, 0, none⟩) 0 0).ownBlock = some gD from rfl] at gr7
      have hoo := own_own HOA.out oD (by decide)
      have F7 : Fr (fun g => g = gD) X X7 := (Fr.rf _ _).grown gr7 (fun g e => .inl (by injection e with e; exact e.symm))
      replace HOA := Lib.hid (own_Fr HOA.out F7 (fun g e he => by
        rcases hoo with h | h
        · rw [e] at h; cases h
        · exact h (by rw [e, he]; rfl)))
      replace gX : G W0 X7 := ((G.fr (R := fun _ => False) gX).grown gr7 (fun g e => .inr (by injection e with e; omega))).toG (fun _ _ h => h)
      refine hK7.out _ _ (HSK.out _ gX) (fun hS => ?_)
      clear hK7 F7 hoo
      try simp only [Act.put, zzA, zzB, zzC, zzD, zzE, zzF]
      have HOD : Hid (X7.ownsRow gD 56 4 v7 yduties.length (duV yduties)) := by
        show World.ownsRow _ _ _ _ _ _ _
        rw [Nat.zero_add, List.nil_append] at own7
        exact own7
      obtain ⟨kd, ke, rfl⟩ := own_slice HOD.out
      clear own7 gr7 oD hlD hzX
      have bC := HBC.out.keep gX
      have bK := HBK.out.keep gX
      have hC1 := (bC.far (p := ⟨w.heap.size + 1 + 1, 2, none⟩) (show w.heap.size ≠ w.heap.size + 1 + 1 by omega) (.slice ka yacts.length kc))
      have HS9 := Lib.hid (And.intro (hC1.cell 2) (And.intro (hC1.cell 3) hC1.lt))
      have k0 := bK.cell 0
      have k1 := bK.cell 1
      have k2 := bK.cell 2
      have k3 := bK.cell 3
      have k4 := bK.cell 4
      have kl := bK.lt
      have kf := bK.frozen 2
      have kf3 := (bK.set_ 2 (.slice ka yacts.length kc)).frozen 3
      have kl3 := (bK.set_ 2 (.slice ka yacts.length kc)).lt
      have k32 := (bK.set_ 2 (.slice ka yacts.length kc)).cell 3
      clear hC1
      refine wpAnyY_oneSW (i := 9) (by kernel_rfl) rfl (by kernel_rfl) (fun K9 hK9 => ?_)
      go_simp
      refine hK9.out _ _ HS9.out (fun hS => ?_)
      clear hK9
      try simp only [Act.put, zzA, zzB, zzC, zzD, zzE, zzF]
      refine wpAnyY_take (i := 10) (v := ?_) rfl (by kernel_rfl) (by kernel_rfl) (by kernel_rfl) (by kernel_rfl) (fun _ _ _ h => h) (Or.inl ⟨by kernel_rfl, ?_⟩) hS ?_
      rotate_left
      · intro w' hSw; go_simp; with_reducible rfl
      try simp only [Act.put, zzA, zzB, zzC, zzD, zzE, zzF]
      refine wpAnyY_oneW (i := 11) (by kernel_rfl) rfl (by kernel_rfl) (by kernel_rfl) (fun K11 hK11 => ?_)
      go_simp
      refine hK11.out _ _ ?_
      clear hK11
      try simp only [Act.put, zzA, zzB, zzC, zzD, zzE, zzF]
      refine wpAnyY_done (by kernel_rfl) ?_ _
      clear hS HS9 kf3 kl3 k32 k0 k1 k2 k3 k4 kl kf bC
      have bK2 := (bK.set_ 2 (.slice ka yacts.length kc)).set_ 3 (.slice kd yduties.length ke)
      simp only [List.setIfInBounds_toArray, List.set_cons_zero, List.set_cons_succ] at bK2
      have bR2 := ((HBR.out.keep gX).far (p := ⟨w.heap.size + 1 + 1, 2, none⟩) (show w.heap.size + 1 ≠ w.heap.size + 1 + 1 by omega) (.slice ka yacts.length kc)).far (p := ⟨w.heap.size + 1 + 1, 3, none⟩) (show w.heap.size + 1 ≠ w.heap.size + 1 + 1 by omega) (.slice kd yduties.length ke)
      have FK : Fr (fun g => g = w.heap.size + 1 + 1) X7 ((X7.setCell ⟨w.heap.size + 1 + 1, 2, none⟩ (.slice ka yacts.length kc)).setCell ⟨w.heap.size + 1 + 1, 3, none⟩ (.slice kd yduties.length ke)) := ((Fr.rf (fun g => g = w.heap.size + 1 + 1) X7).s (p := ⟨w.heap.size + 1 + 1, 2, none⟩) (.inl rfl) _).s (p := ⟨w.heap.size + 1 + 1, 3, none⟩) (.inl rfl) _
      have HOA2 := Lib.hid (own_Fr HOA.out FK (fun g e he => by have := own_base HOA.out e; omega))
      have HOD2 := Lib.hid (own_Fr HOD.out FK (fun g e he => by have := own_base HOD.out e; omega))
      have gY : G w ((X7.setCell ⟨w.heap.size + 1 + 1, 2, none⟩ (.slice ka yacts.length kc)).setCell ⟨w.heap.size + 1 + 1, 3, none⟩ (.slice kd yduties.length ke)) := ((g0.t gX).s (p := ⟨w.heap.size + 1 + 1, 2, none⟩) (show w.heap.size ≤ w.heap.size + 1 + 1 by omega) _).s (p := ⟨w.heap.size + 1 + 1, 3, none⟩) (show w.heap.size ≤ w.heap.size + 1 + 1 by omega) _
      clear FK HOA HOD bK gX
      generalize ((X7.setCell ⟨w.heap.size + 1 + 1, 2, none⟩ (.slice ka yacts.length kc)).setCell ⟨w.heap.size + 1 + 1, 3, none⟩ (.slice kd yduties.length ke)) = Y at *
      have e0 := bK2.cell 0
      have e1 := bK2.cell 1
      have e2 := bK2.cell 2
      have e3 := bK2.cell 3
      have e4 := bK2.cell 4
      have le := bK2.lt
      have r0 := bR2.cell 0
      have r1 := bR2.cell 1
      have r2 := bR2.cell 2
      have r3 := bR2.cell 3
      have r4 := bR2.cell 4
      have z0 := bR2.frozen 0
      have z1 := bR2.frozen 1
      have z2 := bR2.frozen 2
      have z3 := bR2.frozen 3
      have z4 := bR2.frozen 4
      have lr := bR2.lt
      have HBR2 := Lib.hid bR2
      clear bK2 bR2
      go_wp2_with fail
      have bF := ((((HBR2.out.set_ 0 (.int .i64 ybks)).set_ 1 (.int .i64 ybds)).set_ 2 (.slice ka yacts.length kc)).set_ 3 (.slice kd yduties.length ke)).set_ 4 (.int .i64 yen)
      simp only [List.setIfInBounds_toArray, List.set_cons_zero, List.set_cons_succ] at bF
      have FR : Fr (fun g => g = w.heap.size + 1) Y (((((Y.setCell ⟨w.heap.size + 1, 0, none⟩ (.int .i64 ybks)).setCell ⟨w.heap.size + 1, 1, none⟩ (.int .i64 ybds)).setCell ⟨w.heap.size + 1, 2, none⟩ (.slice ka yacts.length kc)).setCell ⟨w.heap.size + 1, 3, none⟩ (.slice kd yduties.length ke)).setCell ⟨w.heap.size + 1, 4, none⟩ (.int .i64 yen)) := (((((Fr.rf (fun g => g = w.heap.size + 1) Y).s (p := ⟨w.heap.size + 1, 0, none⟩) (.inl rfl) _).s (p := ⟨w.heap.size + 1, 1, none⟩) (.inl rfl) _).s (p := ⟨w.heap.size + 1, 2, none⟩) (.inl rfl) _).s (p := ⟨w.heap.size + 1, 3, none⟩) (.inl rfl) _).s (p := ⟨w.heap.size + 1, 4, none⟩) (.inl rfl) _
      have HF := Lib.hid (HP.out _ ka kc kd ke (((((gY.s (p := ⟨w.heap.size + 1, 0, none⟩) (Nat.le_succ _) (.int .i64 ybks)).s (p := ⟨w.heap.size + 1, 1, none⟩) (Nat.le_succ _) (.int .i64 ybds)).s (p := ⟨w.heap.size + 1, 2, none⟩) (Nat.le_succ _) (.slice ka yacts.length kc)).s (p := ⟨w.heap.size + 1, 3, none⟩) (Nat.le_succ _) (.slice kd yduties.length ke)).s (p := ⟨w.heap.size + 1, 4, none⟩) (Nat.le_succ _) (.int .i64 yen)) (own_weaken (own_Fr HOA2.out FR (fun g e he => by have := own_base HOA2.out e; omega)) (by omega)) (own_weaken (own_Fr HOD2.out FR (fun g e he => by have := own_base HOD2.out e; omega)) (by omega)))
      refine bodyPost_ret (res10 _ _ (w.heap.size + 1) _ _ _ _ _ ⟨_, rfl⟩ ⟨_, rfl⟩ ⟨_, _, _, rfl⟩ ⟨_, _, _, rfl⟩ ⟨_, rfl⟩ rfl bF) rfl ?_
      exact HF.out
  · go_simp
    refine hK4.out _ _ (HSK.out _ (gX.a _)) (fun hS => ?_)
    clear hK4
    try simp only [Act.put, zzA, zzB, zzC, zzD, zzE, zzF]
    have oD : (X.alloc (.cells #[] 56)).ownsRow X.heap.size 56 4 (.slice (some ⟨X.heap.size, 0, none⟩) 0 0) 0 [] := own_empty (Blk.new _ _ _) 4
    replace gX := gX.a (.cells #[] 56)
    obtain ⟨gD, hgD⟩ : ∃ g, g = X.heap.size := ⟨_, rfl⟩
    rw [← hgD] at oD ⊢
    have hzD : W0.heap.size ≤ gD := by rw [hgD]; exact hzX
    have hlD : gD < (X.alloc (.cells #[] 56)).heap.size := by rw [hgD, World.size_alloc]; exact Nat.lt_succ_self _
    clear hgD
    replace hzX : W0.heap.size ≤ (X.alloc (.cells #[] 56)).heap.size := Nat.le_of_lt (Nat.lt_of_le_of_lt hzD hlD)
    generalize X.alloc (.cells #[] 56) = X1 at *
    obtain ⟨X, rfl⟩ : ∃ x, x = X1 := ⟨_, rfl⟩
    refine wpAnyY_oneSW (i := 0) (by kernel_rfl) rfl (by kernel_rfl) (fun K0 hK0 => ?_)
    go_simp
    refine hK0.out _ _ (HSK.out _ (gX.a _)) (fun hS => ?_)
    clear hK0
    try simp only [Act.put, zzA, zzB, zzC, zzD, zzE, zzF]
    have oA : (X.alloc (.cells #[] 54)).ownsRow X.heap.size 54 8 (.slice (some ⟨X.heap.size, 0, none⟩) 0 0) 0 [] := own_empty (Blk.new _ _ _) 8
    replace oD := own_G oD ((G.rf X).a (.cells #[] 54))
    replace gX := gX.a (.cells #[] 54)
    obtain ⟨gA, hgA⟩ : ∃ g, g = X.heap.size := ⟨_, rfl⟩
    rw [← hgA] at oA ⊢
    have hzA : W0.heap.size ≤ gA := by rw [hgA]; exact hzX
    have hlA : gA < (X.alloc (.cells #[] 54)).heap.size := by rw [hgA, World.size_alloc]; exact Nat.lt_succ_self _
    have hne : gA ≠ gD := by rw [hgA]; omega
    clear hgA
    replace hzX : W0.heap.size ≤ (X.alloc (.cells #[] 54)).heap.size := Nat.le_of_lt (Nat.lt_of_le_of_lt hzA hlA)
    replace hlD : gD < (X.alloc (.cells #[] 54)).heap.size := by rw [World.size_alloc]; omega
    generalize X.alloc (.cells #[] 54) = X1 at *
    obtain ⟨X, rfl⟩ : ∃ x, x = X1 := ⟨_, rfl⟩
    refine wpAnyY_oneSW (i := 3) (by kernel_rfl) rfl (by kernel_rfl) (fun K3 hK3 => ?_)
    refine wp_app54 _ _ rfl gA 0 _ (.slice (some ⟨gA, 0, none⟩) 0 0) rfl oA yaa yacts yac rfl hraA (HRA.out _ (g0.t gX)) (by omega) (Nat.le_of_lt hlA) ?_
    intro v3 X3 own3 gr3
    rw [show (Value.slice (some ⟨gA, 0, none⟩) 0 0).ownBlock = some gA from rfl] at gr3
    have F3 : Fr (fun g => g = gA) X X3 := (Fr.rf _ _).grown gr3 (fun g e => .inl (by injection e with e; exact e.symm))
    replace oD := own_Fr oD F3 (fun g e he => by injection e with e; exact hne (Eq.trans (Eq.symm he) e.symm))
    replace gX : G W0 X3 := ((G.fr (R := fun _ => False) gX).grown gr3 (fun g e => .inr (by injection e with e; omega))).toG (fun _ _ h => h)
    replace hzX := gX.size
    replace hlD := Nat.lt_of_lt_of_le hlD F3.size
    clear F3 hne
    refine hK3.out _ _ (HSK.out _ gX) (fun hS => ?_)
    clear hK3
    try simp only [Act.put, zzA, zzB, zzC, zzD, zzE, zzF]
    have HOA : Hid (X3.ownsRow gA 54 8 v3 yacts.length (acV yacts)) := by
      show World.ownsRow _ _ _ _ _ _ _
      rw [Nat.zero_add, List.nil_append] at own3
      exact own3
    obtain ⟨ka, kc, rfl⟩ := own_slice HOA.out
    clear own3 gr3 oA hlA
    generalize X3 = X2 at *
    obtain ⟨X, rfl⟩ : ∃ x, x = X2 := ⟨_, rfl⟩
    refine wpAnyY_take (i := 8) (v := ?_) rfl (by kernel_rfl) (by kernel_rfl) (by kernel_rfl) (by kernel_rfl) (fun _ _ _ h => h) (Or.inl ⟨by kernel_rfl, ?_⟩) hS ?_
    rotate_left
    · intro w' hSw; go_simp; with_reducible rfl
    try simp only [Act.put, zzA, zzB, zzC, zzD, zzE, zzF]
    refine wpAnyY_oneSW (i := 7) (by kernel_rfl) rfl (by kernel_rfl) (fun K7 hK7 => ?_)
    refine wp_app56 _ _ rfl gD 0 _ (.slice (some ⟨gD, 0, none⟩) 0 0) rfl oD yda yduties ydc rfl hraD (HRD.out _ (g0.t gX)) (by omega) (Nat.le_of_lt hlD) ?_
    intro v7 X7 own7 gr7
    rw [show (Value.slice (some ⟨gD, 0, none⟩) 0 0).ownBlock = some gD from rfl] at gr7
    have hoo := own_own HOA.out oD (by decide)
    have F7 : Fr (fun g => g = gD) X X7 := (Fr.rf _ _).grown gr7 (fun g e => .inl (by injection e with e; exact e.symm))
    replace HOA := Lib.hid (own_Fr HOA.out F7 (fun g e he => by
      rcases hoo with h | h
      · rw [e] at h; cases h
      · exact h (by rw [e, he]; rfl)))
    replace gX : G W0 X7 := ((G.fr (R := fun _ => False) gX).grown gr7 (fun g e => .inr (by injection e with e; omega))).toG (fun _ _ h => h)
    refine hK7.out _ _ (HSK.out _ gX) (fun hS => ?_)
    clear hK7 F7 hoo
    try simp only [Act.put, zzA, zzB, zzC, zzD, zzE, zzF]
    have HOD : Hid (X7.ownsRow gD 56 4 v7 yduties.length (duV yduties)) := by
      show World.ownsRow _ _ _ _ _ _ _
      rw [Nat.zero_add, List.nil_append] at own7
      exact own7
    obtain ⟨kd, ke, rfl⟩ := own_slice HOD.out
    clear own7 gr7 oD hlD hzX
    have bC := HBC.out.keep gX
    have bK := HBK.out.keep gX
    have hC1 := (bC.far (p := ⟨w.heap.size + 1 + 1, 2, none⟩) (show w.heap.size ≠ w.heap.size + 1 + 1 by omega) (.slice ka yacts.length kc))
    have HS9 := Lib.hid (And.intro (hC1.cell 2) (And.intro (hC1.cell 3) hC1.lt))
    have k0 := bK.cell 0
    have k1 := bK.cell 1
    have k2 := bK.cell 2
    have k3 := bK.cell 3
    have k4 := bK.cell 4
    have kl := bK.lt
    have kf := bK.frozen 2
    have kf3 := (bK.set_ 2 (.slice ka yacts.length kc)).frozen 3
    have kl3 := (bK.set_ 2 (.slice ka yacts.length kc)).lt
    have k32 := (bK.set_ 2 (.slice ka yacts.length kc)).cell 3
    clear hC1
    refine wpAnyY_oneSW (i := 9) (by kernel_rfl) rfl (by kernel_rfl) (fun K9 hK9 => ?_)
    go_simp
    refine hK9.out _ _ HS9.out (fun hS => ?_)
    clear hK9
    try simp only [Act.put, zzA, zzB, zzC, zzD, zzE, zzF]
    refine wpAnyY_take (i := 10) (v := ?_) rfl (by kernel_rfl) (by kernel_rfl) (by kernel_rfl) (by kernel_rfl) (fun _ _ _ h => h) (Or.inl ⟨by kernel_rfl, ?_⟩) hS ?_
    rotate_left
    · intro w' hSw; go_simp; with_reducible rfl
    try simp only [Act.put, zzA, zzB, zzC, zzD, zzE, zzF]
    refine wpAnyY_oneW (i := 11) (by kernel_rfl) rfl (by kernel_rfl) (by kernel_rfl) (fun K11 hK11 => ?_)
    go_simp
    refine hK11.out _ _ ?_
    clear hK11
    try simp only [Act.put, zzA, zzB, zzC, zzD, zzE, zzF]
    refine wpAnyY_done (by kernel_rfl) ?_ _
    clear hS HS9 kf3 kl3 k32 k0 k1 k2 k3 k4 kl kf bC
    have bK2 := (bK.set_ 2 (.slice ka yacts.length kc)).set_ 3 (.slice kd yduties.length ke)
    simp only [List.setIfInBounds_toArray, List.set_cons_zero, List.set_cons_succ] at bK2
    have bR2 := ((HBR.out.keep gX).far (p := ⟨w.heap.size + 1 + 1, 2, none⟩) (show w.heap.size + 1 ≠ w.heap.size + 1 + 1 by omega) (.slice ka yacts.length kc)).far (p := ⟨w.heap.size + 1 + 1, 3, none⟩) (show w.heap.size + 1 ≠ w.heap.size + 1 + 1 by omega) (.slice kd yduties.length ke)
    have FK : Fr (fun g => g = w.heap.size + 1 + 1) X7 ((X7.setCell ⟨w.heap.size + 1 + 1, 2, none⟩ (.slice ka yacts.length kc)).setCell ⟨w.heap.size + 1 + 1, 3, none⟩ (.slice kd yduties.length ke)) := ((Fr.rf (fun g => g = w.heap.size + 1 + 1) X7).s (p := ⟨w.heap.size + 1 + 1, 2, none⟩) (.inl rfl) _).s (p := ⟨w.heap.size + 1 + 1, 3, none⟩) (.inl rfl) _
    have HOA2 := Lib.hid (own_Fr HOA.out FK (fun g e he => by have := own_base HOA.out e; omega))
    have HOD2 := Lib.hid (own_Fr HOD.out FK (fun g e he => by have := own_base HOD.out e; omega))
    have gY : G w ((X7.setCell ⟨w.heap.size + 1 + 1, 2, none⟩ (.slice ka yacts.length kc)).setCell ⟨w.heap.size + 1 + 1, 3, none⟩ (.slice kd yduties.length ke)) := ((g0.t gX).s (p := ⟨w.heap.size + 1 + 1, 2, none⟩) (show w.heap.size ≤ w.heap.size + 1 + 1 by omega) _).s (p := ⟨w.heap.size + 1 + 1, 3, none⟩) (show w.heap.size ≤ w.heap.size + 1 + 1 by omega) _
    clear FK HOA HOD bK gX
    generalize ((X7.setCell ⟨w.heap.size + 1 + 1, 2, none⟩ (.slice ka yacts.length kc)).setCell ⟨w.heap.size + 1 + 1, 3, none⟩ (.slice kd yduties.length ke)) = Y at *
    have e0 := bK2.cell 0
    have e1 := bK2.cell 1
    have e2 := bK2.cell 2
    have e3 := bK2.cell 3
    have e4 := bK2.cell 4
    have le := bK2.lt
    have r0 := bR2.cell 0
    have r1 := bR2.cell 1
    have r2 := bR2.cell 2
    have r3 := bR2.cell 3
    have r4 := bR2.cell 4
    have z0 := bR2.frozen 0
    have z1 := bR2.frozen 1
    have z2 := bR2.frozen 2
    have z3 := bR2.frozen 3
    have z4 := bR2.frozen 4
    have lr := bR2.lt
    have HBR2 := Lib.hid bR2
    clear bK2 bR2
    go_wp2_with fail
    have bF := ((((HBR2.out.set_ 0 (.int .i64 ybks)).set_ 1 (.int .i64 ybds)).set_ 2 (.slice ka yacts.length kc)).set_ 3 (.slice kd yduties.length ke)).set_ 4 (.int .i64 yen)
    simp only [List.setIfInBounds_toArray, List.set_cons_zero, List.set_cons_succ] at bF
    have FR : Fr (fun g => g = w.heap.size + 1) Y (((((Y.setCell ⟨w.heap.size + 1, 0, none⟩ (.int .i64 ybks)).setCell ⟨w.heap.size + 1, 1, none⟩ (.int .i64 ybds)).setCell ⟨w.heap.size + 1, 2, none⟩ (.slice ka yacts.length kc)).setCell ⟨w.heap.size + 1, 3, none⟩ (.slice kd yduties.length ke)).setCell ⟨w.heap.size + 1, 4, none⟩ (.int .i64 yen)) := (((((Fr.rf (fun g => g = w.heap.size + 1) Y).s (p := ⟨w.heap.size + 1, 0, none⟩) (.inl rfl) _).s (p := ⟨w.heap.size + 1, 1, none⟩) (.inl rfl) _).s (p := ⟨w.heap.size + 1, 2, none⟩) (.inl rfl) _).s (p := ⟨w.heap.size + 1, 3, none⟩) (.inl rfl) _).s (p := ⟨w.heap.size + 1, 4, none⟩) (.inl rfl) _
    have HF := Lib.hid (HP.out _ ka kc kd ke (((((gY.s (p := ⟨w.heap.size + 1, 0, none⟩) (Nat.le_succ _) (.int .i64 ybks)).s (p := ⟨w.heap.size + 1, 1, none⟩) (Nat.le_succ _) (.int .i64 ybds)).s (p := ⟨w.heap.size + 1, 2, none⟩) (Nat.le_succ _) (.slice ka yacts.length kc)).s (p := ⟨w.heap.size + 1, 3, none⟩) (Nat.le_succ _) (.slice kd yduties.length ke)).s (p := ⟨w.heap.size + 1, 4, none⟩) (Nat.le_succ _) (.int .i64 yen)) (own_weaken (own_Fr HOA2.out FR (fun g e he => by have := own_base HOA2.out e; omega)) (by omega)) (own_weaken (own_Fr HOD2.out FR (fun g e he => by have := own_base HOD2.out e; omega)) (by omega)))
    refine bodyPost_ret (res10 _ _ (w.heap.size + 1) _ _ _ _ _ ⟨_, rfl⟩ ⟨_, rfl⟩ ⟨_, _, _, rfl⟩ ⟨_, _, _, rfl⟩ ⟨_, rfl⟩ rfl bF) rfl ?_
    exact HF.out
theorem Far_any (c : Cv) (w : World) : Calls Tryz.prog 8 #[.agg c.v] w fun e w' => e = .returned (.bool (decide (60 < c.acts.length) || decide (40 < c.duties.length))) ∧ G w w' := by
  obtain ⟨ybks, ybds, yaa, yac, yacts, yda, ydc, yduties, yen⟩ := c
  unfold Cv.v
  dsimp only at *
  have g0 : G w (w.alloc (.cells #[.int .i64 ybks, .int .i64 ybds, .slice yaa yacts.length yac, .slice yda yduties.length ydc, .int .i64 yen] 25)) := (G.rf _).a _
  have b0 : Blk (w.alloc (.cells #[.int .i64 ybks, .int .i64 ybds, .slice yaa yacts.length yac, .slice yda yduties.length ydc, .int .i64 yen] 25)) w.heap.size 25 #[.int .i64 ybks, .int .i64 ybds, .slice yaa yacts.length yac, .slice yda yduties.length ydc, .int .i64 yen] := Blk.new _ _ _
  by_cases h1 : 60 < yacts.length
  · have h1i : (60 : Int) < (yacts.length : Int) := by omega
    rw [decide_eq_true h1, Bool.true_or]
    go_enter Tryz.func8, Tryz.ntmps8
    go_wp2_with fail
    first | exact ⟨rfl, g0⟩ | (go_ret; exact ⟨rfl, g0⟩)
  · have h1i : ¬ (60 : Int) < (yacts.length : Int) := by omega
    rw [decide_eq_false h1, Bool.false_or]
    by_cases h2 : 40 < yduties.length
    · have h2i : (40 : Int) < (yduties.length : Int) := by omega
      rw [decide_eq_true h2]
      go_enter Tryz.func8, Tryz.ntmps8
      go_wp2_with fail
      first | exact ⟨rfl, g0⟩ | (go_ret; exact ⟨rfl, g0⟩)
    · have h2i : ¬ (40 : Int) < (yduties.length : Int) := by omega
      rw [decide_eq_false h2]
      go_enter Tryz.func8, Tryz.ntmps8
      go_wp2_with fail
      first | exact ⟨rfl, g0⟩ | (go_ret; exact ⟨rfl, g0⟩)
end Go.Proofs.YtabnpimidhlbiaaGreat

set_option linter.unusedSimpArgs false
set_option linter.unusedVariables false
namespace Go.Proofs.YtabnpimidhlbiaaGreat
open Go.RowKit Go.Shelf Go.Sort
attribute [local go_sem] Oper.semAt_some
def clashR (l : List Ac) : Bool := anyU (fun i => anyU (fun k => clB (l.getD k default) (l.getD i default)) i) l.length
theorem clB_symm (a b : Ac) : clB a b = clB b a := by
  have e1 : acB a b = acB b a := by
    cases h : acB a b
    · cases h2 : acB b a
      · rfl
      · rw [(acB_iff _ _).1 h2] at h
        rw [(acB_iff _ _).2 rfl] at h; cases h
    · rw [(acB_iff _ _).1 h]
      exact ((acB_iff _ _).2 rfl).symm
  have e2 : decide (a.id = b.id) = decide (b.id = a.id) := by
    by_cases h : a.id = b.id
    · simp [h]
    · have h2 : ¬ b.id = a.id := fun e => h e.symm
      rw [decide_eq_false h, decide_eq_false h2]
  unfold clB
  rw [e1, e2]
theorem clB_self (a : Ac) : clB a a = false := by
  unfold clB
  rw [(acB_iff a a).2 rfl]
  simp
theorem clashR_eq (l : List Ac) : clashR l = clashB l := by
  cases h : clashB l
  · cases h2 : clashR l
    · rfl
    · obtain ⟨i, hi, h3⟩ := anyU_iff.1 h2
      obtain ⟨k, hk, h4⟩ := anyU_iff.1 h3
      have : clashB l = true := anyU_iff.2 ⟨k, by omega, anyU_iff.2 ⟨i, hi, h4⟩⟩
      rw [h] at this; cases this
  · obtain ⟨i, hi, h3⟩ := anyU_iff.1 h
    obtain ⟨k, hk, h4⟩ := anyU_iff.1 h3
    rcases Nat.lt_trichotomy i k with c | c | c
    · exact anyU_iff.2 ⟨k, hk, anyU_iff.2 ⟨i, c, h4⟩⟩
    · rw [c, clB_self] at h4; cases h4
    · exact anyU_iff.2 ⟨i, hi, anyU_iff.2 ⟨k, c, by rw [clB_symm]; exact h4⟩⟩
theorem chain7 {α : Type} (A B : α) (yid ytm ykd ybk ybd ym1 ym2 ysl ztm zkd zbk zbd zm1 zm2 zsl : Int) : (if ytm = ztm then if ykd = zkd then if ybk = zbk then if ybd = zbd then if ym1 = zm1 then if ym2 = zm2 then if ysl = zsl then A else B else B else B else B else B else B else B) = if acB ⟨yid, ytm, ykd, ybk, ybd, ym1, ym2, ysl⟩ ⟨yid, ztm, zkd, zbk, zbd, zm1, zm2, zsl⟩ = true then A else B := by
  have h := chain8 A B yid ytm ykd ybk ybd ym1 ym2 ysl yid ztm zkd zbk zbd zm1 zm2 zsl
  rw [if_pos rfl] at h
  exact h
set_option maxRecDepth 100000 in
set_option maxHeartbeats 8000000 in
theorem clashR_any (l : List Ac) (aa : Option Addr) (ac : Nat) (w : World) (hr : RowE Ac.v 8 w aa l) (hn : l.length ≤ 1000) : Calls Tryz.prog 50 #[.slice aa l.length ac] w fun e w' => e = .returned (.bool (clashB l)) ∧ G w w' := by
  rw [← clashR_eq]
  have HR := Lib.hid hr
  clear hr
  go_enter Tryz.func50, Tryz.ntmps50
  go_wp2_with fail
  go_loopw [3] (fun vi wr => ∃ i : Nat, i ≤ l.length ∧ vi = .int .i64 i ∧ Hid (∀ j, j < i → anyU (fun k => clB (l.getD k default) (l.getD j default)) j = false) ∧ G w wr) (fun vi _ => l.length - (intOf vi).toNat)
  case atStart => exact ⟨0, Nat.zero_le _, rfl, fun j hj => by omega, G.rf _⟩
  case round =>
    obtain ⟨i, hi, rfl, hno, hG⟩ := hrel
    obtain ⟨wo, rfl⟩ : ∃ wo, wo = wr := ⟨_, rfl⟩
    by_cases hlt : i < l.length
    · have hii : (i : Int) < l.length := by omega
      go_wp2_with fail
      go_loopw [4] (fun vk wr => ∃ k : Nat, k ≤ i ∧ vk = .int .i64 k ∧ Hid (∀ j, j < k → clB (l.getD j default) (l.getD i default) = false) ∧ G w wr) (fun vk _ => i - (intOf vk).toNat)
      case atStart => exact ⟨0, Nat.zero_le _, rfl, fun j hj => by omega, hG⟩
      case round =>
        clear hG
        obtain ⟨k, hk, rfl, hnk, hG⟩ := hrel
        obtain ⟨wi, rfl⟩ : ∃ wi, wi = wr := ⟨_, rfl⟩
        by_cases hlt2 : k < i
        · have hki : (k : Int) < i := by omega
          have hki2 : (k : Int) < l.length := by omega
          rcases HR.out.below hG with h9 | ⟨g, off, rfl, lg, hcell⟩
          · omega
          have hy := hcell k (by omega)
          have hz := hcell i hlt
          have HYES : Hid (clB (l.getD k default) (l.getD i default) = true → clashR l = true) := fun h => anyU_yes hlt (anyU_yes hlt2 h)
          have HNO : Hid (clB (l.getD k default) (l.getD i default) = false → ∀ j, j < k + 1 → clB (l.getD j default) (l.getD i default) = false) := fun h j hj => by
            rcases Nat.lt_or_ge j k with h1 | h1
            · exact hnk.out j h1
            · obtain rfl : j = k := by omega
              exact h
          obtain ⟨y, hyy⟩ : ∃ y, y = l.getD k default := ⟨_, rfl⟩
          obtain ⟨z, hzz⟩ : ∃ z, z = l.getD i default := ⟨_, rfl⟩
          rw [← hyy] at hy HYES HNO
          rw [← hzz] at hz HYES
          have HZZ := Lib.hid hzz
          rw [show (clB y (l.getD i default)) = clB y z by rw [hzz]] at HNO
          clear hyy hzz hcell
          obtain ⟨yid, ytm, ykd, ybk, ybd, ym1, ym2, ysl⟩ := y
          obtain ⟨zid, ztm, zkd, zbk, zbd, zm1, zm2, zsl⟩ := z
          unfold Ac.v at hy hz
          unfold clB at HYES HNO
          dsimp only at HYES HNO
          have u0 : ∀ x : GW wi, x.w.cell? ⟨g, off + k * 8, none⟩ = some (.int .i64 yid) := GW.cell (hy 0 (by omega)) lg
          have u1 : ∀ x : GW wi, x.w.cell? ⟨g, off + k * 8 + 1, none⟩ = some (.int .i64 ytm) := GW.cell (hy 1 (by omega)) lg
          have u2 : ∀ x : GW wi, x.w.cell? ⟨g, off + k * 8 + 2, none⟩ = some (.int .i64 ykd) := GW.cell (hy 2 (by omega)) lg
          have u3 : ∀ x : GW wi, x.w.cell? ⟨g, off + k * 8 + 3, none⟩ = some (.int .i64 ybk) := GW.cell (hy 3 (by omega)) lg
          have u4 : ∀ x : GW wi, x.w.cell? ⟨g, off + k * 8 + 4, none⟩ = some (.int .i64 ybd) := GW.cell (hy 4 (by omega)) lg
          have u5 : ∀ x : GW wi, x.w.cell? ⟨g, off + k * 8 + 5, none⟩ = some (.int .i64 ym1) := GW.cell (hy 5 (by omega)) lg
          have u6 : ∀ x : GW wi, x.w.cell? ⟨g, off + k * 8 + 6, none⟩ = some (.int .i64 ym2) := GW.cell (hy 6 (by omega)) lg
          have u7 : ∀ x : GW wi, x.w.cell? ⟨g, off + k * 8 + 7, none⟩ = some (.int .i64 ysl) := GW.cell (hy 7 (by omega)) lg
          have v0 : ∀ x : GW wi, x.w.cell? ⟨g, off + i * 8, none⟩ = some (.int .i64 zid) := GW.cell (hz 0 (by omega)) lg
          have v1 : ∀ x : GW wi, x.w.cell? ⟨g, off + i * 8 + 1, none⟩ = some (.int .i64 ztm) := GW.cell (hz 1 (by omega)) lg
          have v2 : ∀ x : GW wi, x.w.cell? ⟨g, off + i * 8 + 2, none⟩ = some (.int .i64 zkd) := GW.cell (hz 2 (by omega)) lg
          have v3 : ∀ x : GW wi, x.w.cell? ⟨g, off + i * 8 + 3, none⟩ = some (.int .i64 zbk) := GW.cell (hz 3 (by omega)) lg
          have v4 : ∀ x : GW wi, x.w.cell? ⟨g, off + i * 8 + 4, none⟩ = some (.int .i64 zbd) := GW.cell (hz 4 (by omega)) lg
          have v5 : ∀ x : GW wi, x.w.cell? ⟨g, off + i * 8 + 5, none⟩ = some (.int .i64 zm1) := GW.cell (hz 5 (by omega)) lg
          have v6 : ∀ x : GW wi, x.w.cell? ⟨g, off + i * 8 + 6, none⟩ = some (.int .i64 zm2) := GW.cell (hz 6 (by omega)) lg
          have v7 : ∀ x : GW wi, x.w.cell? ⟨g, off + i * 8 + 7, none⟩ = some (.int .i64 zsl) := GW.cell (hz 7 (by omega)) lg
          clear hy hz
          by_cases h1 : yid = zid
          · cases hEQ : acB ⟨yid, ytm, ykd, ybk, ybd, ym1, ym2, ysl⟩ ⟨zid, ztm, zkd, zbk, zbd, zm1, zm2, zsl⟩
            · have HF := Lib.hid (HYES.out (by rw [hEQ, decide_eq_true h1]; rfl))
              clear HYES HNO
              subst h1
              go_upto_region 7 with fail
              refine wp_region_quiet_G (by kernel_rfl) (by kernel_rfl) ?_
              iterate 20 (quiet_step (fail))
              quiet_step (first | (rw [chain7 _ _ yid, hEQ]; first | exact ⟨rfl, rfl⟩ | (simp only [if_true, if_false, Bool.false_eq_true]; exact ⟨rfl, rfl⟩)) | fail)
              iterate 1 (quiet_step (fail))
              refine wpQuiet_nil ?_
              intro _ hw'
              obtain ⟨yw, rfl⟩ := hw'
              have gy := hG.t yw.g
              clear u0 v0 u1 v1 u2 v2 u3 v3 u4 v4 u5 v5 u6 v6 u7 v7 hEQ lg hG
              go_wp2_with fail
              first | exact ⟨by rw [HF.out]; rfl, gy⟩ | (go_ret; exact ⟨by rw [HF.out]; rfl, gy⟩)
            · have HF := Lib.hid (HNO.out (by rw [hEQ]; simp))
              clear HYES HNO
              subst h1
              go_upto_region 7 with fail
              refine wp_region_quiet_G (by kernel_rfl) (by kernel_rfl) ?_
              iterate 20 (quiet_step (fail))
              quiet_step (first | (rw [chain7 _ _ yid, hEQ]; first | exact ⟨rfl, rfl⟩ | (simp only [if_true, if_false, Bool.false_eq_true]; exact ⟨rfl, rfl⟩)) | fail)
              iterate 1 (quiet_step (fail))
              refine wpQuiet_nil ?_
              intro _ hw'
              obtain ⟨yw, rfl⟩ := hw'
              have gy := hG.t yw.g
              clear u0 v0 u1 v1 u2 v2 u3 v3 u4 v4 u5 v5 u6 v6 u7 v7 hEQ lg hG
              go_wp2_with fail
              go_roundw
              case rel => exact ⟨k + 1, by omega, by go_num, HF.out, gy⟩
              case measure => simp [intOf] <;> omega
          · have HF := Lib.hid (HNO.out (by rw [decide_eq_false h1]; rfl))
            have h1b : (yid == zid) = false := by simpa using h1
            have hu0 := fun (W : World) (hW : G wi W) => ((bcellB hW).1 g _ lg).trans (u0 ⟨wi, G.rf _⟩)
            have hv0 := fun (W : World) (hW : G wi W) => ((bcellB hW).1 g _ lg).trans (v0 ⟨wi, G.rf _⟩)
            clear HYES HNO u0 v0 u1 v1 u2 v2 u3 v3 u4 v4 u5 v5 u6 v6 u7 v7
            go_upto_region 7 with fail
            refine wp_region_Y (S := fun W' => G wi W') 21 22 rfl (by kernel_rfl) ((G.rf wi).d) (fun hS => ?_)
            have gd := hG.t hS
            generalize wi.drew = WD at *
            refine wpAnyY_take (i := 0) (v := ?_) rfl (by kernel_rfl) (by kernel_rfl) (by kernel_rfl) (by kernel_rfl) (fun _ _ _ h => h) (Or.inl ⟨by kernel_rfl, ?_⟩) hS ?_
            rotate_left
            · intro w' hSw; go_simp; with_reducible rfl
            try simp only [Act.put, zzA, zzB, zzC, zzD, zzE, zzF]
            refine wpAnyY_take (i := 1) (v := ?_) rfl (by kernel_rfl) (by kernel_rfl) (by kernel_rfl) (by kernel_rfl) (fun _ _ _ h => h) (Or.inl ⟨by kernel_rfl, ?_⟩) hS ?_
            rotate_left
            · intro w' hSw; go_simp; with_reducible rfl
            try simp only [Act.put, zzA, zzB, zzC, zzD, zzE, zzF]
            refine wpAnyY_take (i := 2) (v := ?_) rfl (by kernel_rfl) (by kernel_rfl) (by kernel_rfl) (by kernel_rfl) (fun _ _ _ h => h) (Or.inl ⟨by kernel_rfl, ?_⟩) hS ?_
            rotate_left
            · intro w' hSw; go_simp; with_reducible rfl
            try simp only [Act.put, zzA, zzB, zzC, zzD, zzE, zzF]
            refine wpAnyY_take (i := 3) (v := ?_) rfl (by kernel_rfl) (by kernel_rfl) (by kernel_rfl) (by kernel_rfl) (fun _ _ _ h => h) (Or.inl ⟨by kernel_rfl, ?_⟩) hS ?_
            rotate_left
            · intro w' hSw; go_simp; with_reducible rfl
            try simp only [Act.put, zzA, zzB, zzC, zzD, zzE, zzF]
            refine wpAnyY_take (i := 4) (v := ?_) rfl (by kernel_rfl) (by kernel_rfl) (by kernel_rfl) (by kernel_rfl) (fun _ _ _ h => h) (Or.inl ⟨by kernel_rfl, ?_⟩) hS ?_
            rotate_left
            · intro w' hSw; have r0 := hu0 _ hSw; have q0 := hv0 _ hSw; have ll := Nat.lt_of_lt_of_le lg hSw.size; go_simp; with_reducible rfl
            try simp only [Act.put, zzA, zzB, zzC, zzD, zzE, zzF]
            refine wpAnyY_take (i := 5) (v := ?_) rfl (by kernel_rfl) (by kernel_rfl) (by kernel_rfl) (by kernel_rfl) (fun _ _ _ h => h) (Or.inl ⟨by kernel_rfl, ?_⟩) hS ?_
            rotate_left
            · intro w' hSw; go_simp; with_reducible rfl
            try simp only [Act.put, zzA, zzB, zzC, zzD, zzE, zzF]
            refine wpAnyY_take (i := 6) (v := ?_) rfl (by kernel_rfl) (by kernel_rfl) (by kernel_rfl) (by kernel_rfl) (fun _ _ _ h => h) (Or.inl ⟨by kernel_rfl, ?_⟩) hS ?_
            rotate_left
            · intro w' hSw; go_simp; with_reducible rfl
            try simp only [Act.put, zzA, zzB, zzC, zzD, zzE, zzF]
            refine wpAnyY_take (i := 7) (v := ?_) rfl (by kernel_rfl) (by kernel_rfl) (by kernel_rfl) (by kernel_rfl) (fun _ _ _ h => h) (Or.inl ⟨by kernel_rfl, ?_⟩) hS ?_
            rotate_left
            · intro w' hSw; go_simp; with_reducible rfl
            try simp only [Act.put, zzA, zzB, zzC, zzD, zzE, zzF]
            refine wpAnyY_take (i := 8) (v := ?_) rfl (by kernel_rfl) (by kernel_rfl) (by kernel_rfl) (by kernel_rfl) (fun _ _ _ h => h) (Or.inl ⟨by kernel_rfl, ?_⟩) hS ?_
            rotate_left
            · intro w' hSw; go_simp; with_reducible rfl
            try simp only [Act.put, zzA, zzB, zzC, zzD, zzE, zzF]
            refine wpAnyY_take (i := 9) (v := ?_) rfl (by kernel_rfl) (by kernel_rfl) (by kernel_rfl) (by kernel_rfl) (fun _ _ _ h => h) (Or.inl ⟨by kernel_rfl, ?_⟩) hS ?_
            rotate_left
            · intro w' hSw; have r0 := hu0 _ hSw; have q0 := hv0 _ hSw; have ll := Nat.lt_of_lt_of_le lg hSw.size; go_simp; with_reducible rfl
            try simp only [Act.put, zzA, zzB, zzC, zzD, zzE, zzF]
            refine wpAnyY_take (i := 10) (v := ?_) rfl (by kernel_rfl) (by kernel_rfl) (by kernel_rfl) (by kernel_rfl) (fun _ _ _ h => h) (Or.inl ⟨by kernel_rfl, ?_⟩) hS ?_
            rotate_left
            · intro w' hSw; go_simp; with_reducible rfl
            try simp only [Act.put, zzA, zzB, zzC, zzD, zzE, zzF]
            refine wpAnyY_take (i := 11) (v := ?_) rfl (by kernel_rfl) (by kernel_rfl) (by kernel_rfl) (by kernel_rfl) (fun _ _ _ h => h) (Or.inl ⟨by kernel_rfl, ?_⟩) hS ?_
            rotate_left
            · intro w' hSw; go_simp; with_reducible rfl
            try simp only [Act.put, zzA, zzB, zzC, zzD, zzE, zzF]
            refine wpAnyY_take (i := 12) (v := undef) rfl (by kernel_rfl) (by kernel_rfl) (by kernel_rfl) (by kernel_rfl) (fun _ _ _ h => h) (Or.inr ⟨by kernel_rfl, rfl⟩) hS ?_
            try simp only [Act.put, zzA, zzB, zzC, zzD, zzE, zzF]
            refine wpAnyY_take (i := 13) (v := undef) rfl (by kernel_rfl) (by kernel_rfl) (by kernel_rfl) (by kernel_rfl) (fun _ _ _ h => h) (Or.inr ⟨by kernel_rfl, rfl⟩) hS ?_
            try simp only [Act.put, zzA, zzB, zzC, zzD, zzE, zzF]
            refine wpAnyY_take (i := 14) (v := undef) rfl (by kernel_rfl) (by kernel_rfl) (by kernel_rfl) (by kernel_rfl) (fun _ _ _ h => h) (Or.inr ⟨by kernel_rfl, rfl⟩) hS ?_
            try simp only [Act.put, zzA, zzB, zzC, zzD, zzE, zzF]
            refine wpAnyY_take (i := 15) (v := undef) rfl (by kernel_rfl) (by kernel_rfl) (by kernel_rfl) (by kernel_rfl) (fun _ _ _ h => h) (Or.inr ⟨by kernel_rfl, rfl⟩) hS ?_
            try simp only [Act.put, zzA, zzB, zzC, zzD, zzE, zzF]
            refine wpAnyY_take (i := 16) (v := undef) rfl (by kernel_rfl) (by kernel_rfl) (by kernel_rfl) (by kernel_rfl) (fun _ _ _ h => h) (Or.inr ⟨by kernel_rfl, rfl⟩) hS ?_
            try simp only [Act.put, zzA, zzB, zzC, zzD, zzE, zzF]
            refine wpAnyY_take (i := 17) (v := undef) rfl (by kernel_rfl) (by kernel_rfl) (by kernel_rfl) (by kernel_rfl) (fun _ _ _ h => h) (Or.inr ⟨by kernel_rfl, rfl⟩) hS ?_
            try simp only [Act.put, zzA, zzB, zzC, zzD, zzE, zzF]
            refine wpAnyY_take (i := 18) (v := undef) rfl (by kernel_rfl) (by kernel_rfl) (by kernel_rfl) (by kernel_rfl) (fun _ _ _ h => h) (Or.inr ⟨by kernel_rfl, rfl⟩) hS ?_
            try simp only [Act.put, zzA, zzB, zzC, zzD, zzE, zzF]
            refine wpAnyY_take (i := 19) (v := undef) rfl (by kernel_rfl) (by kernel_rfl) (by kernel_rfl) (by kernel_rfl) (fun _ _ _ h => h) (Or.inr ⟨by kernel_rfl, rfl⟩) hS ?_
            try simp only [Act.put, zzA, zzB, zzC, zzD, zzE, zzF]
            refine wpAnyY_take (i := 20) (v := undef) rfl (by kernel_rfl) (by kernel_rfl) (by kernel_rfl) (by kernel_rfl) (fun _ _ _ h => h) (Or.inr ⟨by kernel_rfl, rfl⟩) hS ?_
            try simp only [Act.put, zzA, zzB, zzC, zzD, zzE, zzF]
            refine wpAnyY_oneW (i := 21) (by kernel_rfl) rfl (by kernel_rfl) (by kernel_rfl) (fun K21 hK21 => ?_)
            go_simp
            refine hK21.out _ _ ?_
            clear hK21
            try simp only [Act.put, zzA, zzB, zzC, zzD, zzE, zzF]
            refine wpAnyY_done (by kernel_rfl) ?_ _
            clear hS hu0 hv0 lg
            go_wp2_with fail
            go_roundw
            case rel => exact ⟨k + 1, by omega, by go_num, HF.out, gd⟩
            case measure => simp [intOf] <;> omega
        · obtain rfl : k = i := by omega
          have hki : ¬ ((k : Nat) : Int) < k := by omega
          have HF : Hid (∀ j, j < k + 1 → anyU (fun t => clB (l.getD t default) (l.getD j default)) j = false) := fun j hj => by
            rcases Nat.lt_or_ge j k with h1 | h1
            · exact hno.out j h1
            · obtain rfl : j = k := by omega
              exact anyU_no hnk.out
          clear hno hnk
          go_wp2_with fail
          go_roundw
          case rel => exact ⟨k + 1, by omega, by go_num, HF.out, hG⟩
          case measure => simp [intOf] <;> omega
    · obtain rfl : i = l.length := by omega
      have hii : ¬ ((l.length : Nat) : Int) < l.length := by omega
      have HF : Hid (clashR l = false) := anyU_no hno.out
      go_wp2_with fail
      first | exact ⟨by rw [HF.out]; rfl, hG⟩ | (go_ret; exact ⟨by rw [HF.out]; rfl, hG⟩)
end Go.Proofs.YtabnpimidhlbiaaGreat

set_option linter.unusedSimpArgs false
set_option linter.unusedVariables false
namespace Go.Proofs.YtabnpimidhlbiaaGreat
open Go.RowKit Go.Shelf
attribute [local go_sem] Oper.semAt_some
theorem within_any (n lo hi : Int) (w : World) : Calls Tryz.prog 45 #[.int .i64 n, .int .i64 lo, .int .i64 hi] w fun e w' => e = .returned (.bool (isInB n lo hi)) ∧ G w w' := by
  by_cases h1 : lo ≤ n
  · go_enter Tryz.func45, Tryz.ntmps45
    go_wp2
    go_ret
    exact ⟨by simp [isInB, h1], G.rf _⟩
  · go_enter Tryz.func45, Tryz.ntmps45
    go_wp2
    go_ret
    exact ⟨by rw [show isInB n lo hi = false by unfold isInB; simp; omega]; rfl, G.rf _⟩
/-- an act that is right by itself, by the reference's tests -/
def actK (c : Cv) (a : Ac) : Bool :=
  if a.kd = 1 then isInB a.bd 0 (c.bds - 1) && (isInB a.m1 0 99 && (isInB a.m2 0 99 && (!(a.m1 == a.m2) && (a.sl == 0))))
  else if a.kd = 2 then isInB a.bd 0 (c.bds - 1) && (((a.m1 == 0) && (a.m2 == 0)) && (a.sl == 0))
  else if a.kd = 3 then (a.bd == 0) && (((a.m1 == 0) && (a.m2 == 0)) && isInB a.sl 1 999)
  else if a.kd = 4 ∨ a.kd = 5 then (a.bd == 0) && (((a.m1 == 0) && (a.m2 == 0)) && isInB a.sl 0 999)
  else false
theorem beq_dec (a b : Int) : (a == b) = decide (a = b) := by
  by_cases h : a = b <;> simp [h]
theorem actR_eq (c : Cv) (a : Ac) : (isInB a.id 0 99 && (isInB a.tm 0 c.en && (isInB a.bk 0 (c.bks - 1) && actK c a))) = actB c.bks c.bds c.en a := by
  rw [actB_eq]
  have e : ∀ n l : Int, isInB n 0 l = upB n l := fun n l => rfl
  unfold actK fldB teamB
  simp only [e, beq_dec]
  congr 1; congr 1; congr 1
  by_cases h1 : a.kd = 1
  · rw [if_pos h1, if_pos h1]
  rw [if_neg h1, if_neg h1]
  by_cases h2 : a.kd = 2
  · rw [if_pos h2, if_pos h2]
  rw [if_neg h2, if_neg h2]
  by_cases h3 : a.kd = 3
  · rw [if_pos h3, if_pos h3]
    congr 1; congr 1
    unfold isInB upB
    by_cases g1 : 0 < a.sl
    · have g2 : 1 ≤ a.sl := by omega
      have g3 : 0 ≤ a.sl := by omega
      simp [g1, g2, g3]
    · have g2 : ¬ 1 ≤ a.sl := by omega
      simp [g1, g2]
  rw [if_neg h3, if_neg h3]
set_option maxRecDepth 100000 in
set_option maxHeartbeats 16000000 in
theorem isAct_any (c : Cv) (a : Ac) (w : World) (h1 : IntKind.i64.wrap (c.bks - 1) = c.bks - 1) (h2 : IntKind.i64.wrap (c.bds - 1) = c.bds - 1) : Calls Tryz.prog 80 #[.agg c.v, .agg a.v] w fun e w' => e = .returned (.bool (actB c.bks c.bds c.en a)) ∧ G w w' := by
  rw [← actR_eq]
  have HWI := Lib.hid (fun (n lo hi : Int) (W : World) => within_any n lo hi W)
  unfold actK
  obtain ⟨ybks, ybds, yaa, yac, yacts, yda, ydc, yduties, yen⟩ := c
  obtain ⟨yid, ytm, ykd, ybk, ybd, ym1, ym2, ysl⟩ := a
  unfold Cv.v Ac.v at *
  dsimp only at *
  obtain ⟨g0, b0, d0⟩ := box2 w #[.int .i64 ybks, .int .i64 ybds, .slice yaa yacts.length yac, .slice yda yduties.length ydc, .int .i64 yen] #[.int .i64 yid, .int .i64 ytm, .int .i64 ykd, .int .i64 ybk, .int .i64 ybd, .int .i64 ym1, .int .i64 ym2, .int .i64 ysl] 25 54
  cases r1 : isInB yid 0 99
  · go_enter Tryz.func80, Tryz.ntmps80
    go_wp2_with (go_at_call 45; refine (HWI.out _ _ _ _).mono ?_; rintro e w1 ⟨rfl, hG1⟩; replace b0 := b0.keep hG1; replace d0 := d0.keep hG1; replace g0 := g0.t hG1; clear hG1; have m0 := b0.cell 0; have m1 := b0.cell 1; have m2 := b0.cell 2; have m3 := b0.cell 3; have m4 := b0.cell 4; have n0 := d0.cell 0; have n1 := d0.cell 1; have n2 := d0.cell 2; have n3 := d0.cell 3; have n4 := d0.cell 4; have n5 := d0.cell 5; have n6 := d0.cell 6; have n7 := d0.cell 7; have l0 := b0.lt; have l1 := d0.lt)
    all_goals first | exact ⟨by first | rfl | (simp [*]; done), g0⟩ | (go_ret; exact ⟨by first | rfl | (simp [*]; done), g0⟩)
  cases r2 : isInB ytm 0 yen
  · go_enter Tryz.func80, Tryz.ntmps80
    go_wp2_with (go_at_call 45; refine (HWI.out _ _ _ _).mono ?_; rintro e w1 ⟨rfl, hG1⟩; replace b0 := b0.keep hG1; replace d0 := d0.keep hG1; replace g0 := g0.t hG1; clear hG1; have m0 := b0.cell 0; have m1 := b0.cell 1; have m2 := b0.cell 2; have m3 := b0.cell 3; have m4 := b0.cell 4; have n0 := d0.cell 0; have n1 := d0.cell 1; have n2 := d0.cell 2; have n3 := d0.cell 3; have n4 := d0.cell 4; have n5 := d0.cell 5; have n6 := d0.cell 6; have n7 := d0.cell 7; have l0 := b0.lt; have l1 := d0.lt)
    all_goals first | exact ⟨by first | rfl | (simp [*]; done), g0⟩ | (go_ret; exact ⟨by first | rfl | (simp [*]; done), g0⟩)
  cases r3 : isInB ybk 0 (ybks - 1)
  · go_enter Tryz.func80, Tryz.ntmps80
    go_wp2_with (go_at_call 45; refine (HWI.out _ _ _ _).mono ?_; rintro e w1 ⟨rfl, hG1⟩; replace b0 := b0.keep hG1; replace d0 := d0.keep hG1; replace g0 := g0.t hG1; clear hG1; have m0 := b0.cell 0; have m1 := b0.cell 1; have m2 := b0.cell 2; have m3 := b0.cell 3; have m4 := b0.cell 4; have n0 := d0.cell 0; have n1 := d0.cell 1; have n2 := d0.cell 2; have n3 := d0.cell 3; have n4 := d0.cell 4; have n5 := d0.cell 5; have n6 := d0.cell 6; have n7 := d0.cell 7; have l0 := b0.lt; have l1 := d0.lt)
    all_goals first | exact ⟨by first | rfl | (simp [*]; done), g0⟩ | (go_ret; exact ⟨by first | rfl | (simp [*]; done), g0⟩)
  simp only [Bool.true_and]
  have hz : ((ym1 == 0) = true ∧ (ym2 == 0) = true) ∨ ((ym1 == 0) = true ∧ (ym2 == 0) = false) ∨ (ym1 == 0) = false := by
    cases (ym1 == 0) <;> cases (ym2 == 0) <;> simp
  by_cases k1 : ykd = 1
  · subst k1
    rw [if_pos rfl]
    cases rb : isInB ybd 0 (ybds - 1)
    · rcases hz with ⟨z1, z2⟩ | ⟨z1, z2⟩ | z1
      all_goals
        go_enter Tryz.func80, Tryz.ntmps80
        go_wp2_with (go_at_call 45; refine (HWI.out _ _ _ _).mono ?_; rintro e w1 ⟨rfl, hG1⟩; replace b0 := b0.keep hG1; replace d0 := d0.keep hG1; replace g0 := g0.t hG1; clear hG1; have m0 := b0.cell 0; have m1 := b0.cell 1; have m2 := b0.cell 2; have m3 := b0.cell 3; have m4 := b0.cell 4; have n0 := d0.cell 0; have n1 := d0.cell 1; have n2 := d0.cell 2; have n3 := d0.cell 3; have n4 := d0.cell 4; have n5 := d0.cell 5; have n6 := d0.cell 6; have n7 := d0.cell 7; have l0 := b0.lt; have l1 := d0.lt)
        all_goals first | exact ⟨by first | rfl | (simp [*]; done), g0⟩ | (go_ret; exact ⟨by first | rfl | (simp [*]; done), g0⟩)
    cases r5 : isInB ym1 0 99
    · rcases hz with ⟨z1, z2⟩ | ⟨z1, z2⟩ | z1
      all_goals
        go_enter Tryz.func80, Tryz.ntmps80
        go_wp2_with (go_at_call 45; refine (HWI.out _ _ _ _).mono ?_; rintro e w1 ⟨rfl, hG1⟩; replace b0 := b0.keep hG1; replace d0 := d0.keep hG1; replace g0 := g0.t hG1; clear hG1; have m0 := b0.cell 0; have m1 := b0.cell 1; have m2 := b0.cell 2; have m3 := b0.cell 3; have m4 := b0.cell 4; have n0 := d0.cell 0; have n1 := d0.cell 1; have n2 := d0.cell 2; have n3 := d0.cell 3; have n4 := d0.cell 4; have n5 := d0.cell 5; have n6 := d0.cell 6; have n7 := d0.cell 7; have l0 := b0.lt; have l1 := d0.lt)
        all_goals first | exact ⟨by first | rfl | (simp [*]; done), g0⟩ | (go_ret; exact ⟨by first | rfl | (simp [*]; done), g0⟩)
    cases r6 : isInB ym2 0 99
    · rcases hz with ⟨z1, z2⟩ | ⟨z1, z2⟩ | z1
      all_goals
        go_enter Tryz.func80, Tryz.ntmps80
        go_wp2_with (go_at_call 45; refine (HWI.out _ _ _ _).mono ?_; rintro e w1 ⟨rfl, hG1⟩; replace b0 := b0.keep hG1; replace d0 := d0.keep hG1; replace g0 := g0.t hG1; clear hG1; have m0 := b0.cell 0; have m1 := b0.cell 1; have m2 := b0.cell 2; have m3 := b0.cell 3; have m4 := b0.cell 4; have n0 := d0.cell 0; have n1 := d0.cell 1; have n2 := d0.cell 2; have n3 := d0.cell 3; have n4 := d0.cell 4; have n5 := d0.cell 5; have n6 := d0.cell 6; have n7 := d0.cell 7; have l0 := b0.lt; have l1 := d0.lt)
        all_goals first | exact ⟨by first | rfl | (simp [*]; done), g0⟩ | (go_ret; exact ⟨by first | rfl | (simp [*]; done), g0⟩)
    by_cases d : ym1 = ym2
    · rcases hz with ⟨z1, z2⟩ | ⟨z1, z2⟩ | z1
      all_goals
        have d2 : (ym1 == ym2) = true := by simpa using d
        have d3 : (ym1 != ym2) = false := by simp [d]
        rw [d2]
        subst d
        go_enter Tryz.func80, Tryz.ntmps80
        go_wp2_with (go_at_call 45; refine (HWI.out _ _ _ _).mono ?_; rintro e w1 ⟨rfl, hG1⟩; replace b0 := b0.keep hG1; replace d0 := d0.keep hG1; replace g0 := g0.t hG1; clear hG1; have m0 := b0.cell 0; have m1 := b0.cell 1; have m2 := b0.cell 2; have m3 := b0.cell 3; have m4 := b0.cell 4; have n0 := d0.cell 0; have n1 := d0.cell 1; have n2 := d0.cell 2; have n3 := d0.cell 3; have n4 := d0.cell 4; have n5 := d0.cell 5; have n6 := d0.cell 6; have n7 := d0.cell 7; have l0 := b0.lt; have l1 := d0.lt)
        all_goals first | exact ⟨by first | rfl | (simp [*]; done), g0⟩ | (go_ret; exact ⟨by first | rfl | (simp [*]; done), g0⟩)
    · rcases hz with ⟨z1, z2⟩ | ⟨z1, z2⟩ | z1
      all_goals
        have d2 : (ym1 == ym2) = false := by simpa using d
        rw [d2]
        clear d2
        go_enter Tryz.func80, Tryz.ntmps80
        go_wp2_with (go_at_call 45; refine (HWI.out _ _ _ _).mono ?_; rintro e w1 ⟨rfl, hG1⟩; replace b0 := b0.keep hG1; replace d0 := d0.keep hG1; replace g0 := g0.t hG1; clear hG1; have m0 := b0.cell 0; have m1 := b0.cell 1; have m2 := b0.cell 2; have m3 := b0.cell 3; have m4 := b0.cell 4; have n0 := d0.cell 0; have n1 := d0.cell 1; have n2 := d0.cell 2; have n3 := d0.cell 3; have n4 := d0.cell 4; have n5 := d0.cell 5; have n6 := d0.cell 6; have n7 := d0.cell 7; have l0 := b0.lt; have l1 := d0.lt)
        all_goals first | exact ⟨by first | rfl | (simp [*]; done), g0⟩ | (go_ret; exact ⟨by first | rfl | (simp [*]; done), g0⟩)
  rw [if_neg k1]
  have j1 : (ykd == 1) = false := by simpa using k1
  by_cases k2 : ykd = 2
  · subst k2
    rw [if_pos rfl]
    clear k1
    cases rb : isInB ybd 0 (ybds - 1)
    all_goals
      rcases hz with ⟨z1, z2⟩ | ⟨z1, z2⟩ | z1
      all_goals
        go_enter Tryz.func80, Tryz.ntmps80
        go_wp2_with (go_at_call 45; refine (HWI.out _ _ _ _).mono ?_; rintro e w1 ⟨rfl, hG1⟩; replace b0 := b0.keep hG1; replace d0 := d0.keep hG1; replace g0 := g0.t hG1; clear hG1; have m0 := b0.cell 0; have m1 := b0.cell 1; have m2 := b0.cell 2; have m3 := b0.cell 3; have m4 := b0.cell 4; have n0 := d0.cell 0; have n1 := d0.cell 1; have n2 := d0.cell 2; have n3 := d0.cell 3; have n4 := d0.cell 4; have n5 := d0.cell 5; have n6 := d0.cell 6; have n7 := d0.cell 7; have l0 := b0.lt; have l1 := d0.lt)
        all_goals first | exact ⟨by first | rfl | (simp [*]; done), g0⟩ | (go_ret; exact ⟨by first | rfl | (simp [*]; done), g0⟩)
  rw [if_neg k2]
  have j2 : (ykd == 2) = false := by simpa using k2
  by_cases k3 : ykd = 3
  · subst k3
    rw [if_pos rfl]
    clear k1 k2
    cases b0z : (ybd == 0)
    all_goals
      rcases hz with ⟨z1, z2⟩ | ⟨z1, z2⟩ | z1
      all_goals
        go_enter Tryz.func80, Tryz.ntmps80
        go_wp2_with (go_at_call 45; refine (HWI.out _ _ _ _).mono ?_; rintro e w1 ⟨rfl, hG1⟩; replace b0 := b0.keep hG1; replace d0 := d0.keep hG1; replace g0 := g0.t hG1; clear hG1; have m0 := b0.cell 0; have m1 := b0.cell 1; have m2 := b0.cell 2; have m3 := b0.cell 3; have m4 := b0.cell 4; have n0 := d0.cell 0; have n1 := d0.cell 1; have n2 := d0.cell 2; have n3 := d0.cell 3; have n4 := d0.cell 4; have n5 := d0.cell 5; have n6 := d0.cell 6; have n7 := d0.cell 7; have l0 := b0.lt; have l1 := d0.lt)
        all_goals first | exact ⟨by first | rfl | (simp [*]; done), g0⟩ | (go_ret; exact ⟨by first | rfl | (simp [*]; done), g0⟩)
  rw [if_neg k3]
  have j3 : (ykd == 3) = false := by simpa using k3
  by_cases k4 : ykd = 4 ∨ ykd = 5
  · rw [if_pos k4]
    clear k1 k2 k3
    rcases k4 with rfl | rfl
    all_goals
      cases b0z : (ybd == 0)
      all_goals
        rcases hz with ⟨z1, z2⟩ | ⟨z1, z2⟩ | z1
        all_goals
          go_enter Tryz.func80, Tryz.ntmps80
          go_wp2_with (go_at_call 45; refine (HWI.out _ _ _ _).mono ?_; rintro e w1 ⟨rfl, hG1⟩; replace b0 := b0.keep hG1; replace d0 := d0.keep hG1; replace g0 := g0.t hG1; clear hG1; have m0 := b0.cell 0; have m1 := b0.cell 1; have m2 := b0.cell 2; have m3 := b0.cell 3; have m4 := b0.cell 4; have n0 := d0.cell 0; have n1 := d0.cell 1; have n2 := d0.cell 2; have n3 := d0.cell 3; have n4 := d0.cell 4; have n5 := d0.cell 5; have n6 := d0.cell 6; have n7 := d0.cell 7; have l0 := b0.lt; have l1 := d0.lt)
          all_goals first | exact ⟨by first | rfl | (simp [*]; done), g0⟩ | (go_ret; exact ⟨by first | rfl | (simp [*]; done), g0⟩)
  · rw [if_neg k4]
    have j4 : (ykd == 4) = false := by simp; omega
    have j5 : (ykd == 5) = false := by simp; omega
    clear k1 k2 k3 k4
    rcases hz with ⟨z1, z2⟩ | ⟨z1, z2⟩ | z1
    all_goals
      go_enter Tryz.func80, Tryz.ntmps80
      go_wp2_with (go_at_call 45; refine (HWI.out _ _ _ _).mono ?_; rintro e w1 ⟨rfl, hG1⟩; replace b0 := b0.keep hG1; replace d0 := d0.keep hG1; replace g0 := g0.t hG1; clear hG1; have m0 := b0.cell 0; have m1 := b0.cell 1; have m2 := b0.cell 2; have m3 := b0.cell 3; have m4 := b0.cell 4; have n0 := d0.cell 0; have n1 := d0.cell 1; have n2 := d0.cell 2; have n3 := d0.cell 3; have n4 := d0.cell 4; have n5 := d0.cell 5; have n6 := d0.cell 6; have n7 := d0.cell 7; have l0 := b0.lt; have l1 := d0.lt)
      all_goals first | exact ⟨by first | rfl | (simp [*]; done), g0⟩ | (go_ret; exact ⟨by first | rfl | (simp [*]; done), g0⟩)
end Go.Proofs.YtabnpimidhlbiaaGreat

set_option linter.unusedSimpArgs false
set_option linter.unusedVariables false
namespace Go.Proofs.YtabnpimidhlbiaaGreat
open Go.RowKit Go.Shelf
attribute [local go_sem] Oper.semAt_some
def dutR (b : Int) (d : Du) : Bool := isInB d.mb 0 99 && (isInB d.bk 0 (b - 1) && (isInB d.fr 0 d.to && !decide (9999 < d.to)))
theorem dutR_eq (b : Int) (d : Du) : dutR b d = dutB b d := by
  unfold dutR dutB isInB upB
  by_cases h1 : 0 ≤ d.fr
  · by_cases h2 : d.fr ≤ d.to
    · have h3 : 0 ≤ d.to := by omega
      by_cases h4 : 9999 < d.to
      · have h5 : ¬ d.to ≤ 9999 := by omega
        simp [h4, h5]
      · have h5 : d.to ≤ 9999 := by omega
        simp [h1, h2, h3, h4, h5]
    · simp [h2]
  · simp [h1]
def vcR (c : Cv) : Bool := isInB c.bks 1 6 && (isInB c.bds 0 12 && (isInB c.en 0 9999 && (decide (c.acts.length ≤ 40) && (decide (c.duties.length ≤ 20) && (allU (fun i => actB c.bks c.bds c.en (c.acts.getD i default)) c.acts.length && allU (fun i => dutR c.bks (c.duties.getD i default)) c.duties.length)))))
theorem vcR_eq (c : Cv) : vcR c = vcB c := by
  unfold vcR vcB
  simp only [dutR_eq]
  generalize allU (fun i => actB c.bks c.bds c.en (c.acts.getD i default)) c.acts.length = A
  generalize allU (fun i => dutB c.bks (c.duties.getD i default)) c.duties.length = D
  have e : ∀ n l : Int, isInB n 0 l = upB n l := fun n l => rfl
  rw [e, e]
  unfold isInB
  generalize decide (1 ≤ c.bks) = a
  generalize decide (c.bks ≤ 6) = b
  generalize upB c.bds 12 = d
  generalize upB c.en 9999 = f
  generalize decide (c.acts.length ≤ 40) = g
  generalize decide (c.duties.length ≤ 20) = h
  cases a <;> cases b <;> cases d <;> cases f <;> cases g <;> cases h <;> cases A <;> cases D <;> rfl
set_option maxRecDepth 100000 in
set_option maxHeartbeats 16000000 in
theorem isConvoy_any (c : Cv) (w : World) (h : c.At w) : Calls Tryz.prog 49 #[.agg c.v] w fun e w' => e = .returned (.bool (vcB c)) ∧ G w w' := by
  rw [← vcR_eq]
  have HWI := Lib.hid (fun (n lo hi : Int) (W : World) => within_any n lo hi W)
  have HAC := Lib.hid (fun (a : Ac) (W : World) => isAct_any c a W h.b1 h.b2)
  have HRA := Lib.hid h.ra
  have HRD := Lib.hid h.rd
  have hb1 := h.b1
  have hna := h.na
  have hnd := h.nd
  have HV := Lib.hid (show vcR c = _ from rfl)
  clear h
  unfold vcR
  obtain ⟨ybks, ybds, yaa, yac, yacts, yda, ydc, yduties, yen⟩ := c
  unfold Cv.v at *
  dsimp only at *
  clear HV
  have g0 : G w (w.alloc (.cells #[.int .i64 ybks, .int .i64 ybds, .slice yaa yacts.length yac, .slice yda yduties.length ydc, .int .i64 yen] 25)) := (G.rf _).a _
  have b0 : Blk (w.alloc (.cells #[.int .i64 ybks, .int .i64 ybds, .slice yaa yacts.length yac, .slice yda yduties.length ydc, .int .i64 yen] 25)) w.heap.size 25 #[.int .i64 ybks, .int .i64 ybds, .slice yaa yacts.length yac, .slice yda yduties.length ydc, .int .i64 yen] := Blk.new _ _ _
  have m0 := b0.cell 0
  have m1 := b0.cell 1
  have m2 := b0.cell 2
  have m3 := b0.cell 3
  have m4 := b0.cell 4
  have l0 := b0.lt
  cases r1 : isInB ybks 1 6
  · go_enter Tryz.func49, Tryz.ntmps49
    go_wp2_with (go_at_call 45; refine (HWI.out _ _ _ _).mono ?_; rintro e w1 ⟨rfl, hG1⟩; replace b0 := b0.keep hG1; replace g0 := g0.t hG1; clear hG1; clear m0 m1 m2 m3 m4 l0; have m0 := b0.cell 0; have m1 := b0.cell 1; have m2 := b0.cell 2; have m3 := b0.cell 3; have m4 := b0.cell 4; have l0 := b0.lt)
    all_goals first | exact ⟨by first | rfl | (simp [*]; done), g0⟩ | (go_ret; exact ⟨by first | rfl | (simp [*]; done), g0⟩)
  cases r2 : isInB ybds 0 12
  · go_enter Tryz.func49, Tryz.ntmps49
    go_wp2_with (go_at_call 45; refine (HWI.out _ _ _ _).mono ?_; rintro e w1 ⟨rfl, hG1⟩; replace b0 := b0.keep hG1; replace g0 := g0.t hG1; clear hG1; clear m0 m1 m2 m3 m4 l0; have m0 := b0.cell 0; have m1 := b0.cell 1; have m2 := b0.cell 2; have m3 := b0.cell 3; have m4 := b0.cell 4; have l0 := b0.lt)
    all_goals first | exact ⟨by first | rfl | (simp [*]; done), g0⟩ | (go_ret; exact ⟨by first | rfl | (simp [*]; done), g0⟩)
  cases r3 : isInB yen 0 9999
  · go_enter Tryz.func49, Tryz.ntmps49
    go_wp2_with (go_at_call 45; refine (HWI.out _ _ _ _).mono ?_; rintro e w1 ⟨rfl, hG1⟩; replace b0 := b0.keep hG1; replace g0 := g0.t hG1; clear hG1; clear m0 m1 m2 m3 m4 l0; have m0 := b0.cell 0; have m1 := b0.cell 1; have m2 := b0.cell 2; have m3 := b0.cell 3; have m4 := b0.cell 4; have l0 := b0.lt)
    all_goals first | exact ⟨by first | rfl | (simp [*]; done), g0⟩ | (go_ret; exact ⟨by first | rfl | (simp [*]; done), g0⟩)
  by_cases n1 : yacts.length ≤ 40
  rotate_left
  · rw [decide_eq_false n1]
    have n1i : (40 : Int) < yacts.length := by omega
    go_enter Tryz.func49, Tryz.ntmps49
    go_wp2_with (go_at_call 45; refine (HWI.out _ _ _ _).mono ?_; rintro e w1 ⟨rfl, hG1⟩; replace b0 := b0.keep hG1; replace g0 := g0.t hG1; clear hG1; clear m0 m1 m2 m3 m4 l0; have m0 := b0.cell 0; have m1 := b0.cell 1; have m2 := b0.cell 2; have m3 := b0.cell 3; have m4 := b0.cell 4; have l0 := b0.lt)
    all_goals first | exact ⟨by first | rfl | (simp [*]; done), g0⟩ | (go_ret; exact ⟨by first | rfl | (simp [*]; done), g0⟩)
  by_cases n2 : yduties.length ≤ 20
  rotate_left
  · rw [decide_eq_false n2]
    have n1i : ¬ (40 : Int) < yacts.length := by omega
    have n2i : (20 : Int) < yduties.length := by omega
    go_enter Tryz.func49, Tryz.ntmps49
    go_wp2_with (go_at_call 45; refine (HWI.out _ _ _ _).mono ?_; rintro e w1 ⟨rfl, hG1⟩; replace b0 := b0.keep hG1; replace g0 := g0.t hG1; clear hG1; clear m0 m1 m2 m3 m4 l0; have m0 := b0.cell 0; have m1 := b0.cell 1; have m2 := b0.cell 2; have m3 := b0.cell 3; have m4 := b0.cell 4; have l0 := b0.lt)
    all_goals first | exact ⟨by first | rfl | (simp [*]; done), g0⟩ | (go_ret; exact ⟨by first | rfl | (simp [*]; done), g0⟩)
  rw [decide_eq_true n1, decide_eq_true n2]
  simp only [Bool.true_and]
  have n1i : ¬ (40 : Int) < yacts.length := by omega
  have n2i : ¬ (20 : Int) < yduties.length := by omega
  obtain ⟨AA, hAA⟩ : ∃ AA, AA = allU (fun i => actB ybks ybds yen (yacts.getD i default)) yacts.length := ⟨_, rfl⟩
  obtain ⟨DD, hDD⟩ : ∃ DD, DD = allU (fun i => dutR ybks (yduties.getD i default)) yduties.length := ⟨_, rfl⟩
  rw [← hAA, ← hDD]
  have HAA := Lib.hid hAA
  have HDD := Lib.hid hDD
  clear hAA hDD
  go_enter Tryz.func49, Tryz.ntmps49
  go_wp2_with (go_at_call 45; refine (HWI.out _ _ _ _).mono ?_; rintro e w1 ⟨rfl, hG1⟩; replace b0 := b0.keep hG1; replace g0 := g0.t hG1; clear hG1; clear m0 m1 m2 m3 m4 l0; have m0 := b0.cell 0; have m1 := b0.cell 1; have m2 := b0.cell 2; have m3 := b0.cell 3; have m4 := b0.cell 4; have l0 := b0.lt)
  clear m0 m1 m2 m3 m4 l0
  go_loopw [3] (fun vi wr => ∃ k : Nat, k ≤ yacts.length ∧ vi = .int .i64 k ∧ Hid (∀ j, j < k → actB ybks ybds yen (yacts.getD j default) = true) ∧ Hid (G w1 wr)) (fun vi _ => yacts.length - (intOf vi).toNat)
  case atStart => exact ⟨0, Nat.zero_le _, rfl, fun j hj => by omega, G.rf _⟩
  case round =>
    obtain ⟨k, hk, rfl, hno, HG⟩ := hrel
    obtain ⟨wo, rfl⟩ : ∃ wo, wo = wr := ⟨_, rfl⟩
    have bc := b0.keep HG.out
    have m2 := bc.cell 2
    have l0 := bc.lt
    by_cases hlt : k < yacts.length
    · have hki : (k : Int) < yacts.length := by omega
      rcases HRA.out.below (g0.t HG.out) with h9 | ⟨g, off, rfl, lg, hcell⟩
      · omega
      have hy := hcell k hlt
      have HNO : Hid (AA = true → actB ybks ybds yen (yacts.getD k default) = true) := fun h => by
        rw [HAA.out] at h
        exact allU_iff.1 h k hlt
      have HYES : Hid (actB ybks ybds yen (yacts.getD k default) = true → ∀ j, j < k + 1 → actB ybks ybds yen (yacts.getD j default) = true) := fun h j hj => by
        rcases Nat.lt_or_ge j k with h1 | h1
        · exact hno.out j h1
        · obtain rfl : j = k := by omega
          exact h
      obtain ⟨y, hyy⟩ : ∃ y, y = yacts.getD k default := ⟨_, rfl⟩
      rw [← hyy] at hy HNO HYES
      have HCA := Lib.hid (fun (W : World) => HAC.out y W)
      obtain ⟨RR, hRR⟩ : ∃ RR, RR = actB ybks ybds yen y := ⟨_, rfl⟩
      rw [← hRR] at HCA HNO HYES
      clear hyy hcell hRR
      obtain ⟨yid, ytm, ykd, ybk, ybd, ym1, ym2, ysl⟩ := y
      unfold Ac.v at hy HCA
      dsimp only at HCA
      have u0 : ∀ x : GW wo, x.w.cell? ⟨g, off + k * 8, none⟩ = some (.int .i64 yid) := GW.cell (hy 0 (by omega)) lg
      have u1 : ∀ x : GW wo, x.w.cell? ⟨g, off + k * 8 + 1, none⟩ = some (.int .i64 ytm) := GW.cell (hy 1 (by omega)) lg
      have u2 : ∀ x : GW wo, x.w.cell? ⟨g, off + k * 8 + 2, none⟩ = some (.int .i64 ykd) := GW.cell (hy 2 (by omega)) lg
      have u3 : ∀ x : GW wo, x.w.cell? ⟨g, off + k * 8 + 3, none⟩ = some (.int .i64 ybk) := GW.cell (hy 3 (by omega)) lg
      have u4 : ∀ x : GW wo, x.w.cell? ⟨g, off + k * 8 + 4, none⟩ = some (.int .i64 ybd) := GW.cell (hy 4 (by omega)) lg
      have u5 : ∀ x : GW wo, x.w.cell? ⟨g, off + k * 8 + 5, none⟩ = some (.int .i64 ym1) := GW.cell (hy 5 (by omega)) lg
      have u6 : ∀ x : GW wo, x.w.cell? ⟨g, off + k * 8 + 6, none⟩ = some (.int .i64 ym2) := GW.cell (hy 6 (by omega)) lg
      have u7 : ∀ x : GW wo, x.w.cell? ⟨g, off + k * 8 + 7, none⟩ = some (.int .i64 ysl) := GW.cell (hy 7 (by omega)) lg
      clear hy
      go_upto_region 6 with fail
      clear m2
      have m0 := bc.gw 0 rfl
      have m1 := bc.gw 1 rfl
      have m2 := bc.gw 2 rfl
      have m3 := bc.gw 3 rfl
      have m4 := bc.gw 4 rfl
      clear bc
      refine wp_region_quiet_G (by kernel_rfl) (by kernel_rfl) ?_
      iterate 6 (quiet_step (fail))
      quiet_step (first | (go_at_call 80; exact Calls.gq (HCA.out _)))
      iterate 1 (quiet_step (fail))
      refine wpQuiet_nil ?_
      intro _ hw'
      obtain ⟨yw, rfl⟩ := hw'
      have gy := HG.out.t yw.g
      clear m0 m1 m2 m3 m4 l0 u0 u1 u2 u3 u4 u5 u6 u7 lg HG HCA hno
      cases RR
      · have HF : Hid (AA = false) := by
          cases hA : AA
          · rfl
          · exact (HNO.out hA).symm
        clear HNO HYES
        go_wp2_with fail
        first | exact ⟨by rw [HF.out]; rfl, g0.t gy⟩ | (go_ret; exact ⟨by rw [HF.out]; rfl, g0.t gy⟩)
      · have HF := Lib.hid (HYES.out rfl)
        clear HNO HYES
        go_wp2_with fail
        go_roundw
        case rel => exact ⟨k + 1, by omega, by go_num, HF.out, gy⟩
        case measure => simp [intOf] <;> omega
    · obtain rfl : k = yacts.length := by omega
      have hki : ¬ ((yacts.length : Nat) : Int) < yacts.length := by omega
      have HA1 : Hid (AA = true) := by rw [Hid, HAA.out]; exact allU_iff.2 hno.out
      clear hno
      have g2 := g0.t HG.out
      go_wp2_with fail
      clear m2 l0
      go_loopw [4] (fun vi wr => ∃ t : Nat, t ≤ yduties.length ∧ vi = .int .i64 t ∧ Hid (∀ j, j < t → dutR ybks (yduties.getD j default) = true) ∧ Hid (G wo wr)) (fun vi _ => yduties.length - (intOf vi).toNat)
      case atStart => exact ⟨0, Nat.zero_le _, rfl, fun j hj => by omega, G.rf _⟩
      case round =>
        obtain ⟨t, ht, rfl, hno, HG2⟩ := hrel
        obtain ⟨wi, rfl⟩ : ∃ wi, wi = wr := ⟨_, rfl⟩
        replace bc := bc.keep HG2.out
        have g4 := g2.t HG2.out
        have m0 := bc.cell 0
        have m1 := bc.cell 1
        have m2 := bc.cell 2
        have m3 := bc.cell 3
        have m4 := bc.cell 4
        have l0 := bc.lt
        by_cases hlt : t < yduties.length
        · have hti : (t : Int) < yduties.length := by omega
          rcases HRD.out.below g4 with h9 | ⟨g, off, rfl, lg, hcell⟩
          · omega
          have hy := hcell t hlt
          have HNO : Hid (DD = true → dutR ybks (yduties.getD t default) = true) := fun h => by
            rw [HDD.out] at h
            exact allU_iff.1 h t hlt
          have HYES : Hid (dutR ybks (yduties.getD t default) = true → ∀ j, j < t + 1 → dutR ybks (yduties.getD j default) = true) := fun h j hj => by
            rcases Nat.lt_or_ge j t with h1 | h1
            · exact hno.out j h1
            · obtain rfl : j = t := by omega
              exact h
          obtain ⟨z, hzz⟩ : ∃ z, z = yduties.getD t default := ⟨_, rfl⟩
          rw [← hzz] at hy HNO HYES
          clear hzz hcell
          obtain ⟨zmb, zbk, zfr, zto⟩ := z
          unfold Du.v at hy
          unfold dutR at HNO HYES
          dsimp only at HNO HYES
          have q0 : wi.cell? ⟨g, off + t * 4, none⟩ = some (.int .i64 zmb) := hy 0 (by omega)
          have q1 : wi.cell? ⟨g, off + t * 4 + 1, none⟩ = some (.int .i64 zbk) := hy 1 (by omega)
          have q2 : wi.cell? ⟨g, off + t * 4 + 2, none⟩ = some (.int .i64 zfr) := hy 2 (by omega)
          have q3 : wi.cell? ⟨g, off + t * 4 + 3, none⟩ = some (.int .i64 zto) := hy 3 (by omega)
          clear hy
          go_upto_region 12 with fail
          have bd : Blk (wi.alloc (.cells #[.int .i64 zmb, .int .i64 zbk, .int .i64 zfr, .int .i64 zto] 56)) wi.heap.size 56 #[.int .i64 zmb, .int .i64 zbk, .int .i64 zfr, .int .i64 zto] := Blk.new _ _ _
          clear m0 m1 m2 m3 m4 l0 q0 q1 q2 q3 lg
          replace bc := bc.alloc (.cells #[.int .i64 zmb, .int .i64 zbk, .int .i64 zfr, .int .i64 zto] 56)
          have g5 : G wo (wi.alloc (.cells #[.int .i64 zmb, .int .i64 zbk, .int .i64 zfr, .int .i64 zto] 56)) := HG2.out.a _
          change Code.wp _ _ _ _ (wi.alloc (.cells #[.int .i64 zmb, .int .i64 zbk, .int .i64 zfr, .int .i64 zto] 56))
          obtain ⟨D, hD⟩ : ∃ D, D = wi.heap.size := ⟨_, rfl⟩
          rw [← hD] at bd ⊢
          clear hD HG2 g4 hno
          generalize wi.alloc (.cells #[.int .i64 zmb, .int .i64 zbk, .int .i64 zfr, .int .i64 zto] 56) = w5 at *
          have g4 := g5
          have m0 := bc.cell 0
          have m1 := bc.cell 1
          have m2 := bc.cell 2
          have m3 := bc.cell 3
          have m4 := bc.cell 4
          have l0 := bc.lt
          have d0 := bd.cell 0
          have d1 := bd.cell 1
          have d2 := bd.cell 2
          have d3 := bd.cell 3
          have ld := bd.lt
          have HYN : Hid (∀ b : Bool, (isInB zmb 0 99 && (isInB zbk 0 (ybks - 1) && (isInB zfr 0 zto && !decide (9999 < zto)))) = b → (b = false → DD = false) ∧ (b = true → ∀ j, j < t + 1 → dutR ybks (yduties.getD j default) = true)) := fun b hb => by
            refine ⟨fun h => ?_, fun h => HYES.out (by rw [hb, h])⟩
            cases hd : DD
            · rfl
            · have := HNO.out hd
              rw [hb, h] at this
              cases this
          clear HNO HYES
          cases t1 : isInB zmb 0 99
          · have HF := Lib.hid ((HYN.out false (by rw [t1]; rfl)).1 rfl)
            clear HYN
            go_wp2_with (go_at_call 45; refine (HWI.out _ _ _ _).mono ?_; rintro e w5 ⟨rfl, hG1⟩; replace bc := bc.keep hG1; replace bd := bd.keep hG1; replace g4 := g4.t hG1; clear hG1; clear m0 m1 m2 m3 m4 l0 d0 d1 d2 d3 ld; have m0 := bc.cell 0; have m1 := bc.cell 1; have m2 := bc.cell 2; have m3 := bc.cell 3; have m4 := bc.cell 4; have l0 := bc.lt; have d0 := bd.cell 0; have d1 := bd.cell 1; have d2 := bd.cell 2; have d3 := bd.cell 3; have ld := bd.lt)
            all_goals first | exact ⟨by rw [HF.out]; simp, g2.t g4⟩ | (go_ret; exact ⟨by rw [HF.out]; simp, g2.t g4⟩)
          cases t2 : isInB zbk 0 (ybks - 1)
          · have HF := Lib.hid ((HYN.out false (by rw [t1, t2]; rfl)).1 rfl)
            clear HYN
            go_wp2_with (go_at_call 45; refine (HWI.out _ _ _ _).mono ?_; rintro e w5 ⟨rfl, hG1⟩; replace bc := bc.keep hG1; replace bd := bd.keep hG1; replace g4 := g4.t hG1; clear hG1; clear m0 m1 m2 m3 m4 l0 d0 d1 d2 d3 ld; have m0 := bc.cell 0; have m1 := bc.cell 1; have m2 := bc.cell 2; have m3 := bc.cell 3; have m4 := bc.cell 4; have l0 := bc.lt; have d0 := bd.cell 0; have d1 := bd.cell 1; have d2 := bd.cell 2; have d3 := bd.cell 3; have ld := bd.lt)
            all_goals first | exact ⟨by rw [HF.out]; simp, g2.t g4⟩ | (go_ret; exact ⟨by rw [HF.out]; simp, g2.t g4⟩)
          cases t3 : isInB zfr 0 zto
          · have HF := Lib.hid ((HYN.out false (by rw [t1, t2, t3]; rfl)).1 rfl)
            clear HYN
            go_wp2_with (go_at_call 45; refine (HWI.out _ _ _ _).mono ?_; rintro e w5 ⟨rfl, hG1⟩; replace bc := bc.keep hG1; replace bd := bd.keep hG1; replace g4 := g4.t hG1; clear hG1; clear m0 m1 m2 m3 m4 l0 d0 d1 d2 d3 ld; have m0 := bc.cell 0; have m1 := bc.cell 1; have m2 := bc.cell 2; have m3 := bc.cell 3; have m4 := bc.cell 4; have l0 := bc.lt; have d0 := bd.cell 0; have d1 := bd.cell 1; have d2 := bd.cell 2; have d3 := bd.cell 3; have ld := bd.lt)
            all_goals first | exact ⟨by rw [HF.out]; simp, g2.t g4⟩ | (go_ret; exact ⟨by rw [HF.out]; simp, g2.t g4⟩)
          by_cases t4 : 9999 < zto
          · have HF := Lib.hid ((HYN.out false (by rw [t1, t2, t3, decide_eq_true t4]; rfl)).1 rfl)
            clear HYN
            go_wp2_with (go_at_call 45; refine (HWI.out _ _ _ _).mono ?_; rintro e w5 ⟨rfl, hG1⟩; replace bc := bc.keep hG1; replace bd := bd.keep hG1; replace g4 := g4.t hG1; clear hG1; clear m0 m1 m2 m3 m4 l0 d0 d1 d2 d3 ld; have m0 := bc.cell 0; have m1 := bc.cell 1; have m2 := bc.cell 2; have m3 := bc.cell 3; have m4 := bc.cell 4; have l0 := bc.lt; have d0 := bd.cell 0; have d1 := bd.cell 1; have d2 := bd.cell 2; have d3 := bd.cell 3; have ld := bd.lt)
            all_goals first | exact ⟨by rw [HF.out]; simp, g2.t g4⟩ | (go_ret; exact ⟨by rw [HF.out]; simp, g2.t g4⟩)
          · have HF := Lib.hid ((HYN.out true (by rw [t1, t2, t3, decide_eq_false t4]; rfl)).2 rfl)
            clear HYN
            go_wp2_with (go_at_call 45; refine (HWI.out _ _ _ _).mono ?_; rintro e w5 ⟨rfl, hG1⟩; replace bc := bc.keep hG1; replace bd := bd.keep hG1; replace g4 := g4.t hG1; clear hG1; clear m0 m1 m2 m3 m4 l0 d0 d1 d2 d3 ld; have m0 := bc.cell 0; have m1 := bc.cell 1; have m2 := bc.cell 2; have m3 := bc.cell 3; have m4 := bc.cell 4; have l0 := bc.lt; have d0 := bd.cell 0; have d1 := bd.cell 1; have d2 := bd.cell 2; have d3 := bd.cell 3; have ld := bd.lt)
            go_roundw
            case rel => exact ⟨t + 1, by omega, by go_num, HF.out, g4⟩
            case measure => simp [intOf] <;> omega
        · obtain rfl : t = yduties.length := by omega
          have hti : ¬ ((yduties.length : Nat) : Int) < yduties.length := by omega
          have HD1 : Hid (DD = true) := by rw [Hid, HDD.out]; exact allU_iff.2 hno.out
          clear hno
          go_wp2_with fail
          first | exact ⟨by rw [HA1.out, HD1.out]; rfl, g4⟩ | (go_ret; exact ⟨by rw [HA1.out, HD1.out]; rfl, g4⟩)
end Go.Proofs.YtabnpimidhlbiaaGreat

set_option linter.unusedSimpArgs false
set_option linter.unusedVariables false
namespace Go.Proofs.YtabnpimidhlbiaaGreat
open Go.RowKit Go.Shelf
attribute [local go_sem] Oper.semAt_some
/-- a row of numbers at a block -/
def RI (W : World) (g n : Nat) (f : Int → Int) : Prop := ∃ cur, Blk W g 3 cur ∧ ∀ i : Nat, i < n → cur[i]? = some (.int .i64 (f i))
theorem RI.keep {W W' : World} {g n : Nat} {f : Int → Int} (h : RI W g n f) (hG : G W W') : RI W' g n f := by
  obtain ⟨cur, h1, h2⟩ := h
  exact ⟨cur, h1.keep hG, h2⟩
theorem RI.cell {W : World} {g n : Nat} {f : Int → Int} (h : RI W g n f) {i : Nat} (hi : i < n) : W.cell? ⟨g, i, none⟩ = some (.int .i64 (f i)) := by
  obtain ⟨cur, h1, h2⟩ := h
  exact (h1.cell i).trans (h2 i hi)
theorem RI.frozen {W : World} {g n : Nat} {f : Int → Int} (h : RI W g n f) (i : Nat) : W.frozen? ⟨g, i, none⟩ = false := by
  obtain ⟨cur, h1, h2⟩ := h
  exact h1.frozen i
theorem RI.lt {W : World} {g n : Nat} {f : Int → Int} (h : RI W g n f) : g < W.heap.size := by
  obtain ⟨cur, h1, h2⟩ := h
  exact h1.lt
theorem RI.put {W : World} {g n : Nat} {f : Int → Int} (h : RI W g n f) {i : Nat} (hi : i < n) (u : Int) : RI (W.setCell ⟨g, i, none⟩ (.int .i64 u)) g n (up f i u) := by
  obtain ⟨cur, h1, h2⟩ := h
  refine ⟨_, h1.set_ i _, fun k hk => ?_⟩
  have hs : i < cur.size := by
    have := h2 i hi
    exact (Array.getElem?_eq_some_iff.1 this).1
  rw [Array.getElem?_setIfInBounds]
  by_cases e : i = k
  · subst e
    rw [if_pos rfl, if_pos hs, up_self]
  · rw [if_neg e, h2 k hk, up_ne _ _ (by omega)]
theorem RI.far {W : World} {g n : Nat} {f : Int → Int} (h : RI W g n f) {p : Addr} (hp : g ≠ p.block) (u : Value) : RI (W.setCell p u) g n f := by
  obtain ⟨cur, h1, h2⟩ := h
  exact ⟨cur, h1.far hp u, h2⟩
/-- the reference's state, as it lies -/
structure StAt (W : World) (N B : Nat) (s : Rs) (a0 : Option Addr) (g0 g1 g2 g3 : Nat) : Prop where
  r0 : N = 0 ∨ (a0 = some ⟨g0, 0, none⟩ ∧ RI W g0 N s.wr)
  r1 : RI W g1 B s.se
  r2 : RI W g2 B s.si
  r3 : RI W g3 B s.wg
  n01 : N = 0 ∨ (g0 ≠ g1 ∧ g0 ≠ g2 ∧ g0 ≠ g3)
  n12 : g1 ≠ g2
  n13 : g1 ≠ g3
  n23 : g2 ≠ g3
theorem StAt.keep {W W' : World} {N B : Nat} {s : Rs} {a0 : Option Addr} {g0 g1 g2 g3 : Nat} (h : StAt W N B s a0 g0 g1 g2 g3) (hG : G W W') : StAt W' N B s a0 g0 g1 g2 g3 :=
  ⟨h.r0.imp id (fun h => ⟨h.1, h.2.keep hG⟩), h.r1.keep hG, h.r2.keep hG, h.r3.keep hG, h.n01, h.n12, h.n13, h.n23⟩
/-- the blocks of a state -/
abbrev RS4 (g0 g1 g2 g3 : Nat) : Nat → Prop := fun i => i = g0 ∨ i = g1 ∨ i = g2 ∨ i = g3
theorem StAt.put1 {W : World} {N B : Nat} {s : Rs} {a0 : Option Addr} {g0 g1 g2 g3 : Nat} (h : StAt W N B s a0 g0 g1 g2 g3) {i : Nat} (hi : i < B) (u : Int) : StAt (W.setCell ⟨g1, i, none⟩ (.int .i64 u)) N B { s with se := up s.se i u } a0 g0 g1 g2 g3 := by
  refine ⟨?_, h.r1.put hi u, h.r2.far (p := ⟨g1, i, none⟩) (fun e => h.n12 e.symm) _, h.r3.far (p := ⟨g1, i, none⟩) (fun e => h.n13 e.symm) _, h.n01, h.n12, h.n13, h.n23⟩
  rcases h.r0 with h0 | ⟨h1, h2⟩
  · exact .inl h0
  · rcases h.n01 with h0 | ⟨e1, e2, e3⟩
    · exact .inl h0
    · exact .inr ⟨h1, h2.far (p := ⟨g1, i, none⟩) e1 _⟩
theorem StAt.put2 {W : World} {N B : Nat} {s : Rs} {a0 : Option Addr} {g0 g1 g2 g3 : Nat} (h : StAt W N B s a0 g0 g1 g2 g3) {i : Nat} (hi : i < B) (u : Int) : StAt (W.setCell ⟨g2, i, none⟩ (.int .i64 u)) N B { s with si := up s.si i u } a0 g0 g1 g2 g3 := by
  refine ⟨?_, h.r1.far (p := ⟨g2, i, none⟩) h.n12 _, h.r2.put hi u, h.r3.far (p := ⟨g2, i, none⟩) (fun e => h.n23 e.symm) _, h.n01, h.n12, h.n13, h.n23⟩
  rcases h.r0 with h0 | ⟨h1, h2⟩
  · exact .inl h0
  · rcases h.n01 with h0 | ⟨e1, e2, e3⟩
    · exact .inl h0
    · exact .inr ⟨h1, h2.far (p := ⟨g2, i, none⟩) e2 _⟩
theorem StAt.put3 {W : World} {N B : Nat} {s : Rs} {a0 : Option Addr} {g0 g1 g2 g3 : Nat} (h : StAt W N B s a0 g0 g1 g2 g3) {i : Nat} (hi : i < B) (u : Int) : StAt (W.setCell ⟨g3, i, none⟩ (.int .i64 u)) N B { s with wg := up s.wg i u } a0 g0 g1 g2 g3 := by
  refine ⟨?_, h.r1.far (p := ⟨g3, i, none⟩) h.n13 _, h.r2.far (p := ⟨g3, i, none⟩) h.n23 _, h.r3.put hi u, h.n01, h.n12, h.n13, h.n23⟩
  rcases h.r0 with h0 | ⟨h1, h2⟩
  · exact .inl h0
  · rcases h.n01 with h0 | ⟨e1, e2, e3⟩
    · exact .inl h0
    · exact .inr ⟨h1, h2.far (p := ⟨g3, i, none⟩) e3 _⟩
theorem StAt.put0 {W : World} {N B : Nat} {s : Rs} {a0 : Option Addr} {g0 g1 g2 g3 : Nat} (h : StAt W N B s a0 g0 g1 g2 g3) {i : Nat} (hi : i < N) (u : Int) : StAt (W.setCell ⟨g0, i, none⟩ (.int .i64 u)) N B { s with wr := up s.wr i u } a0 g0 g1 g2 g3 := by
  rcases h.n01 with h0 | ⟨e1, e2, e3⟩
  · omega
  rcases h.r0 with h0 | ⟨h1, h2⟩
  · omega
  exact ⟨.inr ⟨h1, h2.put hi u⟩, h.r1.far (p := ⟨g0, i, none⟩) (fun e => e1 e.symm) _, h.r2.far (p := ⟨g0, i, none⟩) (fun e => e2 e.symm) _, h.r3.far (p := ⟨g0, i, none⟩) (fun e => e3 e.symm) _, h.n01, h.n12, h.n13, h.n23⟩
def HapRPost (w : World) (N B : Nat) (s' : Rs) (r : Bool) (a0 : Option Addr) (g0 g1 g2 g3 : Nat) (e : Ending) (w' : World) : Prop :=
  e = .returned (.bool r) ∧ StAt w' N B s' a0 g0 g1 g2 g3 ∧ Fr (RS4 g0 g1 g2 g3) w w'
end Go.Proofs.YtabnpimidhlbiaaGreat

set_option linter.unusedSimpArgs false
set_option linter.unusedVariables false
namespace Go.Proofs.YtabnpimidhlbiaaGreat
open Go.RowKit Go.Shelf
attribute [local go_sem] Oper.semAt_some
set_option maxRecDepth 100000 in
set_option maxHeartbeats 16000000 in
theorem happens_any (a : Ac) (N B : Nat) (s : Rs) (a0 : Option Addr) (g0 g1 g2 g3 c0 c1 c2 c3 : Nat) (w : World) (h : StAt w N B s a0 g0 g1 g2 g3) (hb : 0 ≤ a.bk ∧ a.bk < B) (hd : a.kd = 1 ∨ a.kd = 2 → 0 ≤ a.bd ∧ a.bd < N) (hk : a.kd = 1 ∨ a.kd = 2 ∨ a.kd = 3 ∨ a.kd = 4 ∨ a.kd = 5) :
    Calls Tryz.prog 52 #[.agg #[.slice a0 N c0, .slice (some ⟨g1, 0, none⟩) B c1, .slice (some ⟨g2, 0, none⟩) B c2, .slice (some ⟨g3, 0, none⟩) B c3], .agg a.v] w (HapRPost w N B (hapR s a).1 (hapR s a).2 a0 g0 g1 g2 g3) := by
  have HPP : Hid (∀ w' s' r, hapR s a = (s', r) → StAt w' N B s' a0 g0 g1 g2 g3 → Fr (RS4 g0 g1 g2 g3) w w' → HapRPost w N B (hapR s a).1 (hapR s a).2 a0 g0 g1 g2 g3 (.returned (.bool r)) w') := fun w' s' r e h1 h2 => ⟨by rw [e], by rw [e]; exact h1, h2⟩
  generalize HapRPost w N B (hapR s a).1 (hapR s a).2 a0 g0 g1 g2 g3 = PP at *
  obtain ⟨yid, ytm, ykd, ybk, ybd, ym1, ym2, ysl⟩ := a
  dsimp only at hb hd hk
  obtain ⟨kb, rfl⟩ := Int.eq_ofNat_of_zero_le hb.1
  have hkb : kb < B := by omega
  have hki : (kb : Int) < B := hb.2
  clear hb
  unfold Ac.v
  dsimp only
  obtain ⟨G0, b0, d0⟩ := box2 w #[.slice a0 N c0, .slice (some ⟨g1, 0, none⟩) B c1, .slice (some ⟨g2, 0, none⟩) B c2, .slice (some ⟨g3, 0, none⟩) B c3] #[.int .i64 yid, .int .i64 ytm, .int .i64 ykd, .int .i64 (kb : Nat), .int .i64 ybd, .int .i64 ym1, .int .i64 ym2, .int .i64 ysl] 58 54
  have hS := h.keep G0
  have hl1 := h.r1.lt
  have hl2 := h.r2.lt
  have hl3 := h.r3.lt
  have q1 := hS.r1.cell hkb
  have q2 := hS.r2.cell hkb
  have q3 := hS.r3.cell hkb
  have z1 := hS.r1.frozen kb
  have z2 := hS.r2.frozen kb
  have z3 := hS.r3.frozen kb
  have l1 := hS.r1.lt
  have l2 := hS.r2.lt
  have l3 := hS.r3.lt
  have F0 : Fr (RS4 g0 g1 g2 g3) w _ := G0.fr
  have HS := Lib.hid hS
  have HSZ := Lib.hid (show g1 < w.heap.size ∧ g2 < w.heap.size ∧ g3 < w.heap.size from ⟨hl1, hl2, hl3⟩)
  clear hS hl1 hl2 hl3
  have HN01 := Lib.hid h.n01
  have HR0 := Lib.hid h.r0
  clear h
  have s0 := b0.cell 0
  have s1 := b0.cell 1
  have s2 := b0.cell 2
  have s3 := b0.cell 3
  have ls := b0.lt
  have n1 := d0.cell 1
  have n2 := d0.cell 2
  have n3 := d0.cell 3
  have n4 := d0.cell 4
  have n7 := d0.cell 7
  have ld := d0.lt
  obtain ⟨W1, hW1⟩ : ∃ W1, W1 = (w.alloc (.cells #[.slice a0 N c0, .slice (some ⟨g1, 0, none⟩) B c1, .slice (some ⟨g2, 0, none⟩) B c2, .slice (some ⟨g3, 0, none⟩) B c3] 58)).alloc (.cells #[.int .i64 yid, .int .i64 ytm, .int .i64 ykd, .int .i64 (kb : Nat), .int .i64 ybd, .int .i64 ym1, .int .i64 ym2, .int .i64 ysl] 54) := ⟨_, rfl⟩
  rw [← hW1] at G0 b0 d0 q1 q2 q3 z1 z2 z3 l1 l2 l3 F0 HS s0 s1 s2 s3 ls n1 n2 n3 n4 n7 ld
  have HW1 := Lib.hid hW1
  clear hW1
  obtain ⟨PB, hPB⟩ : ∃ PB, PB = w.heap.size := ⟨_, rfl⟩
  rw [← hPB] at b0 d0 s0 s1 s2 s3 ls n1 n2 n3 n4 n7 ld
  have HPB := Lib.hid hPB
  clear hPB
  have hq1 : ∃ SE, s.se kb = SE := ⟨_, rfl⟩
  obtain ⟨SE, hSE⟩ := hq1
  obtain ⟨SI, hSI⟩ : ∃ SI, s.si kb = SI := ⟨_, rfl⟩
  obtain ⟨WG, hWG⟩ : ∃ WG, s.wg kb = WG := ⟨_, rfl⟩
  rw [hSE] at q1
  rw [hSI] at q2
  rw [hWG] at q3
  have HSE := Lib.hid hSE
  have HSI := Lib.hid hSI
  have HWG := Lib.hid hWG
  clear hSE hSI hWG
  by_cases k1 : ykd = 1
  · subst k1
    have hdd := hd (.inl rfl)
    clear hd
    obtain ⟨db, rfl⟩ := Int.eq_ofNat_of_zero_le hdd.1
    have hdb : db < N := by omega
    have hdi : (db : Int) < N := hdd.2
    clear hdd
    obtain ⟨rfl, hr0⟩ : a0 = some ⟨g0, 0, none⟩ ∧ RI W1 g0 N s.wr := by
      rcases HS.out.r0 with h0 | h0
      · omega
      · exact h0
    have q0 := hr0.cell hdb
    have z0 := hr0.frozen db
    have lq := hr0.lt
    clear hr0
    obtain ⟨WR, hWR⟩ : ∃ WR, s.wr db = WR := ⟨_, rfl⟩
    rw [hWR] at q0
    have HWR := Lib.hid hWR
    clear hWR
    by_cases w1 : WR = -1
    rotate_left
    · have HZ := Lib.hid (HPP.out W1 s false (by unfold hapR; rw [if_pos rfl, if_pos (.inl (by show s.wr db ≠ -1; rw [HWR.out]; exact w1))]) HS.out F0)
      clear HPP
      go_enter Tryz.func52, Tryz.ntmps52
      go_upto_region 1 with fail
      change Code.wp _ _ _ _ ((w.alloc (.cells #[.slice (some ⟨g0, 0, none⟩) N c0, .slice (some ⟨g1, 0, none⟩) B c1, .slice (some ⟨g2, 0, none⟩) B c2, .slice (some ⟨g3, 0, none⟩) B c3] 58)).alloc (.cells #[.int .i64 yid, .int .i64 ytm, .int .i64 1, .int .i64 (kb : Nat), .int .i64 (db : Nat), .int .i64 ym1, .int .i64 ym2, .int .i64 ysl] 54))
      rw [← HW1.out, ← HPB.out]
      go_wp2_with fail
      first | exact HZ.out | (go_ret; exact HZ.out)
    by_cases w2 : SE = 0
    rotate_left
    · have HZ := Lib.hid (HPP.out W1 s false (by unfold hapR; rw [if_pos rfl, if_pos (.inr (by show s.se kb ≠ 0; rw [HSE.out]; exact w2))]) HS.out F0)
      clear HPP
      subst w1
      go_enter Tryz.func52, Tryz.ntmps52
      go_upto_region 1 with fail
      change Code.wp _ _ _ _ ((w.alloc (.cells #[.slice (some ⟨g0, 0, none⟩) N c0, .slice (some ⟨g1, 0, none⟩) B c1, .slice (some ⟨g2, 0, none⟩) B c2, .slice (some ⟨g3, 0, none⟩) B c3] 58)).alloc (.cells #[.int .i64 yid, .int .i64 ytm, .int .i64 1, .int .i64 (kb : Nat), .int .i64 (db : Nat), .int .i64 ym1, .int .i64 ym2, .int .i64 ysl] 54))
      rw [← HW1.out, ← HPB.out]
      go_wp2_with fail
      first | exact HZ.out | (go_ret; exact HZ.out)
    · have HZ := Lib.hid (HPP.out (W1.setCell ⟨g0, db, none⟩ (.int .i64 (kb : Nat))) { s with wr := up s.wr (db : Nat) (kb : Nat) } true (by unfold hapR; rw [if_pos rfl, if_neg (by show ¬ (s.wr db ≠ -1 ∨ s.se kb ≠ 0); rw [HWR.out, HSE.out]; omega)]) (HS.out.put0 hdb _) (F0.s (p := ⟨g0, db, none⟩) (.inl (.inl rfl)) _))
      clear HPP
      subst w1
      subst w2
      go_enter Tryz.func52, Tryz.ntmps52
      go_upto_region 1 with fail
      change Code.wp _ _ _ _ ((w.alloc (.cells #[.slice (some ⟨g0, 0, none⟩) N c0, .slice (some ⟨g1, 0, none⟩) B c1, .slice (some ⟨g2, 0, none⟩) B c2, .slice (some ⟨g3, 0, none⟩) B c3] 58)).alloc (.cells #[.int .i64 yid, .int .i64 ytm, .int .i64 1, .int .i64 (kb : Nat), .int .i64 (db : Nat), .int .i64 ym1, .int .i64 ym2, .int .i64 ysl] 54))
      rw [← HW1.out, ← HPB.out]
      go_wp2_with fail
      first | exact HZ.out | (go_ret; exact HZ.out)
  have j1 : (ykd == 1) = false := by simpa using k1
  by_cases k2 : ykd = 2
  · subst k2
    clear k1
    have hdd := hd (.inr rfl)
    clear hd
    obtain ⟨db, rfl⟩ := Int.eq_ofNat_of_zero_le hdd.1
    have hdb : db < N := by omega
    have hdi : (db : Int) < N := hdd.2
    clear hdd
    obtain ⟨rfl, hr0⟩ : a0 = some ⟨g0, 0, none⟩ ∧ RI W1 g0 N s.wr := by
      rcases HS.out.r0 with h0 | h0
      · omega
      · exact h0
    have q0 := hr0.cell hdb
    have z0 := hr0.frozen db
    have lq := hr0.lt
    clear hr0
    obtain ⟨WR, hWR⟩ : ∃ WR, s.wr db = WR := ⟨_, rfl⟩
    rw [hWR] at q0
    have HWR := Lib.hid hWR
    clear hWR
    by_cases w1 : WR = (kb : Nat)
    rotate_left
    · have HZ := Lib.hid (fun (W : World) (hg : G W1 W) => HPP.out W s false (by unfold hapR; rw [if_neg (by simp), if_pos rfl, if_pos (.inl (by show s.wr db ≠ kb; rw [HWR.out]; exact w1))]) (HS.out.keep hg) (F0.g hg))
      clear HPP
      go_enter Tryz.func52, Tryz.ntmps52
      go_upto_region 1 with fail
      change Code.wp _ _ _ _ ((w.alloc (.cells #[.slice (some ⟨g0, 0, none⟩) N c0, .slice (some ⟨g1, 0, none⟩) B c1, .slice (some ⟨g2, 0, none⟩) B c2, .slice (some ⟨g3, 0, none⟩) B c3] 58)).alloc (.cells #[.int .i64 yid, .int .i64 ytm, .int .i64 2, .int .i64 (kb : Nat), .int .i64 (db : Nat), .int .i64 ym1, .int .i64 ym2, .int .i64 ysl] 54))
      rw [← HW1.out, ← HPB.out]
      go_upto_region 8 with fail
      refine wp_region_Y (S := fun W' => G W1 W') 12 13 rfl (by kernel_rfl) ((G.rf W1).d) (fun hS => ?_)
      have gd : G W1 W1.drew := (G.rf W1).d
      generalize W1.drew = WD at *
      refine wpAnyY_take (i := 0) (v := ?_) rfl (by kernel_rfl) (by kernel_rfl) (by kernel_rfl) (by kernel_rfl) (fun _ _ _ h => h) (Or.inl ⟨by kernel_rfl, ?_⟩) hS ?_
      rotate_left
      · intro w' hSw; go_simp; with_reducible rfl
      try simp only [Act.put, zzA, zzB, zzC, zzD, zzE, zzF]
      refine wpAnyY_take (i := 1) (v := ?_) rfl (by kernel_rfl) (by kernel_rfl) (by kernel_rfl) (by kernel_rfl) (fun _ _ _ h => h) (Or.inl ⟨by kernel_rfl, ?_⟩) hS ?_
      rotate_left
      · intro w' hSw; have s0 := (b0.keep hSw).cell 0; have ls := (b0.keep hSw).lt; have n3 := (d0.keep hSw).cell 3; have n4 := (d0.keep hSw).cell 4; have ld := (d0.keep hSw).lt; have q0 := ((bcellB hSw).1 g0 db lq).trans q0; have lq := Nat.lt_of_lt_of_le lq hSw.size; go_simp; with_reducible rfl
      try simp only [Act.put, zzA, zzB, zzC, zzD, zzE, zzF]
      refine wpAnyY_take (i := 2) (v := ?_) rfl (by kernel_rfl) (by kernel_rfl) (by kernel_rfl) (by kernel_rfl) (fun _ _ _ h => h) (Or.inl ⟨by kernel_rfl, ?_⟩) hS ?_
      rotate_left
      · intro w' hSw; go_simp; with_reducible rfl
      try simp only [Act.put, zzA, zzB, zzC, zzD, zzE, zzF]
      refine wpAnyY_take (i := 3) (v := ?_) rfl (by kernel_rfl) (by kernel_rfl) (by kernel_rfl) (by kernel_rfl) (fun _ _ _ h => h) (Or.inl ⟨by kernel_rfl, ?_⟩) hS ?_
      rotate_left
      · intro w' hSw; have s0 := (b0.keep hSw).cell 0; have ls := (b0.keep hSw).lt; have n3 := (d0.keep hSw).cell 3; have n4 := (d0.keep hSw).cell 4; have ld := (d0.keep hSw).lt; have q0 := ((bcellB hSw).1 g0 db lq).trans q0; have lq := Nat.lt_of_lt_of_le lq hSw.size; go_simp; with_reducible rfl
      try simp only [Act.put, zzA, zzB, zzC, zzD, zzE, zzF]
      refine wpAnyY_take (i := 4) (v := ?_) rfl (by kernel_rfl) (by kernel_rfl) (by kernel_rfl) (by kernel_rfl) (fun _ _ _ h => h) (Or.inl ⟨by kernel_rfl, ?_⟩) hS ?_
      rotate_left
      · intro w' hSw; go_simp; with_reducible rfl
      try simp only [Act.put, zzA, zzB, zzC, zzD, zzE, zzF]
      refine wpAnyY_take (i := 5) (v := ?_) rfl (by kernel_rfl) (by kernel_rfl) (by kernel_rfl) (by kernel_rfl) (fun _ _ _ h => h) (Or.inl ⟨by kernel_rfl, ?_⟩) hS ?_
      rotate_left
      · intro w' hSw; have s0 := (b0.keep hSw).cell 0; have ls := (b0.keep hSw).lt; have n3 := (d0.keep hSw).cell 3; have n4 := (d0.keep hSw).cell 4; have ld := (d0.keep hSw).lt; have q0 := ((bcellB hSw).1 g0 db lq).trans q0; have lq := Nat.lt_of_lt_of_le lq hSw.size; go_simp; with_reducible rfl
      try simp only [Act.put, zzA, zzB, zzC, zzD, zzE, zzF]
      refine wpAnyY_take (i := 6) (v := ?_) rfl (by kernel_rfl) (by kernel_rfl) (by kernel_rfl) (by kernel_rfl) (fun _ _ _ h => h) (Or.inl ⟨by kernel_rfl, ?_⟩) hS ?_
      rotate_left
      · intro w' hSw; go_simp; with_reducible rfl
      try simp only [Act.put, zzA, zzB, zzC, zzD, zzE, zzF]
      refine wpAnyY_take (i := 7) (v := ?_) rfl (by kernel_rfl) (by kernel_rfl) (by kernel_rfl) (by kernel_rfl) (fun _ _ _ h => h) (Or.inl ⟨by kernel_rfl, ?_⟩) hS ?_
      rotate_left
      · intro w' hSw; have s0 := (b0.keep hSw).cell 0; have ls := (b0.keep hSw).lt; have n3 := (d0.keep hSw).cell 3; have n4 := (d0.keep hSw).cell 4; have ld := (d0.keep hSw).lt; have q0 := ((bcellB hSw).1 g0 db lq).trans q0; have lq := Nat.lt_of_lt_of_le lq hSw.size; go_simp; with_reducible rfl
      try simp only [Act.put, zzA, zzB, zzC, zzD, zzE, zzF]
      refine wpAnyY_take (i := 8) (v := .bool true) rfl (by kernel_rfl) (by kernel_rfl) (by kernel_rfl) (by kernel_rfl) (fun _ _ _ h => h) (Or.inl ⟨by kernel_rfl, ?_⟩) hS ?_
      · intro w9 hSw; go_simp <;> first | with_reducible rfl | rfl | (simp [*]; done)
      try simp only [Act.put, zzA, zzB, zzC, zzD, zzE, zzF]
      refine wpAnyY_take (i := 9) (v := ?_) rfl (by kernel_rfl) (by kernel_rfl) (by kernel_rfl) (by kernel_rfl) (fun _ _ _ h => h) (Or.inl ⟨by kernel_rfl, ?_⟩) hS ?_
      rotate_left
      · intro w' hSw; go_simp; with_reducible rfl
      try simp only [Act.put, zzA, zzB, zzC, zzD, zzE, zzF]
      refine wpAnyY_take (i := 10) (v := undef) rfl (by kernel_rfl) (by kernel_rfl) (by kernel_rfl) (by kernel_rfl) (fun _ _ _ h => h) (Or.inr ⟨by kernel_rfl, rfl⟩) hS ?_
      try simp only [Act.put, zzA, zzB, zzC, zzD, zzE, zzF]
      refine wpAnyY_take (i := 11) (v := undef) rfl (by kernel_rfl) (by kernel_rfl) (by kernel_rfl) (by kernel_rfl) (fun _ _ _ h => h) (Or.inr ⟨by kernel_rfl, rfl⟩) hS ?_
      try simp only [Act.put, zzA, zzB, zzC, zzD, zzE, zzF]
      refine wpAnyY_oneW (i := 12) (by kernel_rfl) rfl (by kernel_rfl) (by kernel_rfl) (fun K12 hK12 => ?_)
      go_simp
      refine hK12.out _ _ ?_
      clear hK12
      try simp only [Act.put, zzA, zzB, zzC, zzD, zzE, zzF]
      refine wpAnyY_done (by kernel_rfl) ?_ _
      go_wp2_with fail
      first | exact HZ.out _ gd | (go_ret; exact HZ.out _ gd)
    by_cases w2 : SE = 0
    rotate_left
    · have HZ := Lib.hid (fun (W : World) (hg : G W1 W) => HPP.out W s false (by unfold hapR; rw [if_neg (by simp), if_pos rfl, if_pos (.inr (by show s.se kb ≠ 0; rw [HSE.out]; exact w2))]) (HS.out.keep hg) (F0.g hg))
      clear HPP
      subst w1
      go_enter Tryz.func52, Tryz.ntmps52
      go_upto_region 1 with fail
      change Code.wp _ _ _ _ ((w.alloc (.cells #[.slice (some ⟨g0, 0, none⟩) N c0, .slice (some ⟨g1, 0, none⟩) B c1, .slice (some ⟨g2, 0, none⟩) B c2, .slice (some ⟨g3, 0, none⟩) B c3] 58)).alloc (.cells #[.int .i64 yid, .int .i64 ytm, .int .i64 2, .int .i64 (kb : Nat), .int .i64 (db : Nat), .int .i64 ym1, .int .i64 ym2, .int .i64 ysl] 54))
      rw [← HW1.out, ← HPB.out]
      go_upto_region 8 with fail
      refine wp_region_Y (S := fun W' => G W1 W') 12 13 rfl (by kernel_rfl) ((G.rf W1).d) (fun hS => ?_)
      have gd : G W1 W1.drew := (G.rf W1).d
      generalize W1.drew = WD at *
      refine wpAnyY_take (i := 0) (v := ?_) rfl (by kernel_rfl) (by kernel_rfl) (by kernel_rfl) (by kernel_rfl) (fun _ _ _ h => h) (Or.inl ⟨by kernel_rfl, ?_⟩) hS ?_
      rotate_left
      · intro w' hSw; go_simp; with_reducible rfl
      try simp only [Act.put, zzA, zzB, zzC, zzD, zzE, zzF]
      refine wpAnyY_take (i := 1) (v := ?_) rfl (by kernel_rfl) (by kernel_rfl) (by kernel_rfl) (by kernel_rfl) (fun _ _ _ h => h) (Or.inl ⟨by kernel_rfl, ?_⟩) hS ?_
      rotate_left
      · intro w' hSw; have s0 := (b0.keep hSw).cell 0; have ls := (b0.keep hSw).lt; have n3 := (d0.keep hSw).cell 3; have n4 := (d0.keep hSw).cell 4; have ld := (d0.keep hSw).lt; have q0 := ((bcellB hSw).1 g0 db lq).trans q0; have lq := Nat.lt_of_lt_of_le lq hSw.size; go_simp; with_reducible rfl
      try simp only [Act.put, zzA, zzB, zzC, zzD, zzE, zzF]
      refine wpAnyY_take (i := 2) (v := ?_) rfl (by kernel_rfl) (by kernel_rfl) (by kernel_rfl) (by kernel_rfl) (fun _ _ _ h => h) (Or.inl ⟨by kernel_rfl, ?_⟩) hS ?_
      rotate_left
      · intro w' hSw; go_simp; with_reducible rfl
      try simp only [Act.put, zzA, zzB, zzC, zzD, zzE, zzF]
      refine wpAnyY_take (i := 3) (v := ?_) rfl (by kernel_rfl) (by kernel_rfl) (by kernel_rfl) (by kernel_rfl) (fun _ _ _ h => h) (Or.inl ⟨by kernel_rfl, ?_⟩) hS ?_
      rotate_left
      · intro w' hSw; have s0 := (b0.keep hSw).cell 0; have ls := (b0.keep hSw).lt; have n3 := (d0.keep hSw).cell 3; have n4 := (d0.keep hSw).cell 4; have ld := (d0.keep hSw).lt; have q0 := ((bcellB hSw).1 g0 db lq).trans q0; have lq := Nat.lt_of_lt_of_le lq hSw.size; go_simp; with_reducible rfl
      try simp only [Act.put, zzA, zzB, zzC, zzD, zzE, zzF]
      refine wpAnyY_take (i := 4) (v := ?_) rfl (by kernel_rfl) (by kernel_rfl) (by kernel_rfl) (by kernel_rfl) (fun _ _ _ h => h) (Or.inl ⟨by kernel_rfl, ?_⟩) hS ?_
      rotate_left
      · intro w' hSw; go_simp; with_reducible rfl
      try simp only [Act.put, zzA, zzB, zzC, zzD, zzE, zzF]
      refine wpAnyY_take (i := 5) (v := ?_) rfl (by kernel_rfl) (by kernel_rfl) (by kernel_rfl) (by kernel_rfl) (fun _ _ _ h => h) (Or.inl ⟨by kernel_rfl, ?_⟩) hS ?_
      rotate_left
      · intro w' hSw; have s0 := (b0.keep hSw).cell 0; have ls := (b0.keep hSw).lt; have n3 := (d0.keep hSw).cell 3; have n4 := (d0.keep hSw).cell 4; have ld := (d0.keep hSw).lt; have q0 := ((bcellB hSw).1 g0 db lq).trans q0; have lq := Nat.lt_of_lt_of_le lq hSw.size; go_simp; with_reducible rfl
      try simp only [Act.put, zzA, zzB, zzC, zzD, zzE, zzF]
      refine wpAnyY_take (i := 6) (v := ?_) rfl (by kernel_rfl) (by kernel_rfl) (by kernel_rfl) (by kernel_rfl) (fun _ _ _ h => h) (Or.inl ⟨by kernel_rfl, ?_⟩) hS ?_
      rotate_left
      · intro w' hSw; go_simp; with_reducible rfl
      try simp only [Act.put, zzA, zzB, zzC, zzD, zzE, zzF]
      refine wpAnyY_take (i := 7) (v := ?_) rfl (by kernel_rfl) (by kernel_rfl) (by kernel_rfl) (by kernel_rfl) (fun _ _ _ h => h) (Or.inl ⟨by kernel_rfl, ?_⟩) hS ?_
      rotate_left
      · intro w' hSw; have s0 := (b0.keep hSw).cell 0; have ls := (b0.keep hSw).lt; have n3 := (d0.keep hSw).cell 3; have n4 := (d0.keep hSw).cell 4; have ld := (d0.keep hSw).lt; have q0 := ((bcellB hSw).1 g0 db lq).trans q0; have lq := Nat.lt_of_lt_of_le lq hSw.size; go_simp; with_reducible rfl
      try simp only [Act.put, zzA, zzB, zzC, zzD, zzE, zzF]
      refine wpAnyY_take (i := 8) (v := .bool false) rfl (by kernel_rfl) (by kernel_rfl) (by kernel_rfl) (by kernel_rfl) (fun _ _ _ h => h) (Or.inl ⟨by kernel_rfl, ?_⟩) hS ?_
      · intro w9 hSw; go_simp <;> first | with_reducible rfl | rfl | (simp [*]; done)
      try simp only [Act.put, zzA, zzB, zzC, zzD, zzE, zzF]
      refine wpAnyY_take (i := 9) (v := ?_) rfl (by kernel_rfl) (by kernel_rfl) (by kernel_rfl) (by kernel_rfl) (fun _ _ _ h => h) (Or.inl ⟨by kernel_rfl, ?_⟩) hS ?_
      rotate_left
      · intro w' hSw; go_simp; with_reducible rfl
      try simp only [Act.put, zzA, zzB, zzC, zzD, zzE, zzF]
      refine wpAnyY_take (i := 10) (v := ?_) rfl (by kernel_rfl) (by kernel_rfl) (by kernel_rfl) (by kernel_rfl) (fun _ _ _ h => h) (Or.inl ⟨by kernel_rfl, ?_⟩) hS ?_
      rotate_left
      · intro w' hSw; go_simp; with_reducible rfl
      try simp only [Act.put, zzA, zzB, zzC, zzD, zzE, zzF]
      refine wpAnyY_take (i := 11) (v := ?_) rfl (by kernel_rfl) (by kernel_rfl) (by kernel_rfl) (by kernel_rfl) (fun _ _ _ h => h) (Or.inl ⟨by kernel_rfl, ?_⟩) hS ?_
      rotate_left
      · intro w' hSw; go_simp; with_reducible rfl
      try simp only [Act.put, zzA, zzB, zzC, zzD, zzE, zzF]
      refine wpAnyY_oneW (i := 12) (by kernel_rfl) rfl (by kernel_rfl) (by kernel_rfl) (fun K12 hK12 => ?_)
      go_simp
      refine hK12.out _ _ ?_
      clear hK12
      try simp only [Act.put, zzA, zzB, zzC, zzD, zzE, zzF]
      refine wpAnyY_done (by kernel_rfl) ?_ _
      go_wp2_with fail
      first | exact HZ.out _ gd | (go_ret; exact HZ.out _ gd)
    · have HZ := Lib.hid (fun (W : World) (hg : G W1 W) => HPP.out (W.setCell ⟨g0, db, none⟩ (.int .i64 (-1))) { s with wr := up s.wr (db : Nat) (-1) } true (by unfold hapR; rw [if_neg (by simp), if_pos rfl, if_neg (by show ¬ (s.wr db ≠ kb ∨ s.se kb ≠ 0); rw [HWR.out, HSE.out]; omega)]) ((HS.out.keep hg).put0 hdb _) ((F0.g hg).s (p := ⟨g0, db, none⟩) (.inl (.inl rfl)) _))
      clear HPP
      subst w1
      subst w2
      go_enter Tryz.func52, Tryz.ntmps52
      go_upto_region 1 with fail
      change Code.wp _ _ _ _ ((w.alloc (.cells #[.slice (some ⟨g0, 0, none⟩) N c0, .slice (some ⟨g1, 0, none⟩) B c1, .slice (some ⟨g2, 0, none⟩) B c2, .slice (some ⟨g3, 0, none⟩) B c3] 58)).alloc (.cells #[.int .i64 yid, .int .i64 ytm, .int .i64 2, .int .i64 (kb : Nat), .int .i64 (db : Nat), .int .i64 ym1, .int .i64 ym2, .int .i64 ysl] 54))
      rw [← HW1.out, ← HPB.out]
      go_upto_region 8 with fail
      refine wp_region_Y (S := fun W' => G W1 W') 12 13 rfl (by kernel_rfl) ((G.rf W1).d) (fun hS => ?_)
      have gd : G W1 W1.drew := (G.rf W1).d
      generalize W1.drew = WD at *
      refine wpAnyY_take (i := 0) (v := ?_) rfl (by kernel_rfl) (by kernel_rfl) (by kernel_rfl) (by kernel_rfl) (fun _ _ _ h => h) (Or.inl ⟨by kernel_rfl, ?_⟩) hS ?_
      rotate_left
      · intro w' hSw; go_simp; with_reducible rfl
      try simp only [Act.put, zzA, zzB, zzC, zzD, zzE, zzF]
      refine wpAnyY_take (i := 1) (v := ?_) rfl (by kernel_rfl) (by kernel_rfl) (by kernel_rfl) (by kernel_rfl) (fun _ _ _ h => h) (Or.inl ⟨by kernel_rfl, ?_⟩) hS ?_
      rotate_left
      · intro w' hSw; have s0 := (b0.keep hSw).cell 0; have ls := (b0.keep hSw).lt; have n3 := (d0.keep hSw).cell 3; have n4 := (d0.keep hSw).cell 4; have ld := (d0.keep hSw).lt; have q0 := ((bcellB hSw).1 g0 db lq).trans q0; have lq := Nat.lt_of_lt_of_le lq hSw.size; go_simp; with_reducible rfl
      try simp only [Act.put, zzA, zzB, zzC, zzD, zzE, zzF]
      refine wpAnyY_take (i := 2) (v := ?_) rfl (by kernel_rfl) (by kernel_rfl) (by kernel_rfl) (by kernel_rfl) (fun _ _ _ h => h) (Or.inl ⟨by kernel_rfl, ?_⟩) hS ?_
      rotate_left
      · intro w' hSw; go_simp; with_reducible rfl
      try simp only [Act.put, zzA, zzB, zzC, zzD, zzE, zzF]
      refine wpAnyY_take (i := 3) (v := ?_) rfl (by kernel_rfl) (by kernel_rfl) (by kernel_rfl) (by kernel_rfl) (fun _ _ _ h => h) (Or.inl ⟨by kernel_rfl, ?_⟩) hS ?_
      rotate_left
      · intro w' hSw; have s0 := (b0.keep hSw).cell 0; have ls := (b0.keep hSw).lt; have n3 := (d0.keep hSw).cell 3; have n4 := (d0.keep hSw).cell 4; have ld := (d0.keep hSw).lt; have q0 := ((bcellB hSw).1 g0 db lq).trans q0; have lq := Nat.lt_of_lt_of_le lq hSw.size; go_simp; with_reducible rfl
      try simp only [Act.put, zzA, zzB, zzC, zzD, zzE, zzF]
      refine wpAnyY_take (i := 4) (v := ?_) rfl (by kernel_rfl) (by kernel_rfl) (by kernel_rfl) (by kernel_rfl) (fun _ _ _ h => h) (Or.inl ⟨by kernel_rfl, ?_⟩) hS ?_
      rotate_left
      · intro w' hSw; go_simp; with_reducible rfl
      try simp only [Act.put, zzA, zzB, zzC, zzD, zzE, zzF]
      refine wpAnyY_take (i := 5) (v := ?_) rfl (by kernel_rfl) (by kernel_rfl) (by kernel_rfl) (by kernel_rfl) (fun _ _ _ h => h) (Or.inl ⟨by kernel_rfl, ?_⟩) hS ?_
      rotate_left
      · intro w' hSw; have s0 := (b0.keep hSw).cell 0; have ls := (b0.keep hSw).lt; have n3 := (d0.keep hSw).cell 3; have n4 := (d0.keep hSw).cell 4; have ld := (d0.keep hSw).lt; have q0 := ((bcellB hSw).1 g0 db lq).trans q0; have lq := Nat.lt_of_lt_of_le lq hSw.size; go_simp; with_reducible rfl
      try simp only [Act.put, zzA, zzB, zzC, zzD, zzE, zzF]
      refine wpAnyY_take (i := 6) (v := ?_) rfl (by kernel_rfl) (by kernel_rfl) (by kernel_rfl) (by kernel_rfl) (fun _ _ _ h => h) (Or.inl ⟨by kernel_rfl, ?_⟩) hS ?_
      rotate_left
      · intro w' hSw; go_simp; with_reducible rfl
      try simp only [Act.put, zzA, zzB, zzC, zzD, zzE, zzF]
      refine wpAnyY_take (i := 7) (v := ?_) rfl (by kernel_rfl) (by kernel_rfl) (by kernel_rfl) (by kernel_rfl) (fun _ _ _ h => h) (Or.inl ⟨by kernel_rfl, ?_⟩) hS ?_
      rotate_left
      · intro w' hSw; have s0 := (b0.keep hSw).cell 0; have ls := (b0.keep hSw).lt; have n3 := (d0.keep hSw).cell 3; have n4 := (d0.keep hSw).cell 4; have ld := (d0.keep hSw).lt; have q0 := ((bcellB hSw).1 g0 db lq).trans q0; have lq := Nat.lt_of_lt_of_le lq hSw.size; go_simp; with_reducible rfl
      try simp only [Act.put, zzA, zzB, zzC, zzD, zzE, zzF]
      refine wpAnyY_take (i := 8) (v := .bool false) rfl (by kernel_rfl) (by kernel_rfl) (by kernel_rfl) (by kernel_rfl) (fun _ _ _ h => h) (Or.inl ⟨by kernel_rfl, ?_⟩) hS ?_
      · intro w9 hSw; go_simp <;> first | with_reducible rfl | rfl | (simp [*]; done)
      try simp only [Act.put, zzA, zzB, zzC, zzD, zzE, zzF]
      refine wpAnyY_take (i := 9) (v := ?_) rfl (by kernel_rfl) (by kernel_rfl) (by kernel_rfl) (by kernel_rfl) (fun _ _ _ h => h) (Or.inl ⟨by kernel_rfl, ?_⟩) hS ?_
      rotate_left
      · intro w' hSw; go_simp; with_reducible rfl
      try simp only [Act.put, zzA, zzB, zzC, zzD, zzE, zzF]
      refine wpAnyY_take (i := 10) (v := ?_) rfl (by kernel_rfl) (by kernel_rfl) (by kernel_rfl) (by kernel_rfl) (fun _ _ _ h => h) (Or.inl ⟨by kernel_rfl, ?_⟩) hS ?_
      rotate_left
      · intro w' hSw; go_simp; with_reducible rfl
      try simp only [Act.put, zzA, zzB, zzC, zzD, zzE, zzF]
      refine wpAnyY_take (i := 11) (v := ?_) rfl (by kernel_rfl) (by kernel_rfl) (by kernel_rfl) (by kernel_rfl) (fun _ _ _ h => h) (Or.inl ⟨by kernel_rfl, ?_⟩) hS ?_
      rotate_left
      · intro w' hSw; go_simp; with_reducible rfl
      try simp only [Act.put, zzA, zzB, zzC, zzD, zzE, zzF]
      refine wpAnyY_oneW (i := 12) (by kernel_rfl) rfl (by kernel_rfl) (by kernel_rfl) (fun K12 hK12 => ?_)
      go_simp
      refine hK12.out _ _ ?_
      clear hK12
      try simp only [Act.put, zzA, zzB, zzC, zzD, zzE, zzF]
      refine wpAnyY_done (by kernel_rfl) ?_ _
      have q0 := ((bcellB gd).1 g0 db lq).trans q0
      have z0 := ((bcellB gd).2 g0 db lq).trans z0
      have lq := Nat.lt_of_lt_of_le lq gd.size
      have s0 := (b0.keep gd).cell 0
      have ls := (b0.keep gd).lt
      have n4 := (d0.keep gd).cell 4
      have ld := (d0.keep gd).lt
      go_wp2_with fail
      first | exact HZ.out _ gd | (go_ret; exact HZ.out _ gd)
  have j2 : (ykd == 2) = false := by simpa using k2
  clear hd
  by_cases k3 : ykd = 3
  · subst k3
    clear k1 k2
    by_cases w2 : SE = 0
    rotate_left
    · have HZ := Lib.hid (HPP.out W1 s false (by unfold hapR; rw [if_neg (by simp), if_neg (by simp), if_pos rfl, if_pos (by show s.se kb ≠ 0; rw [HSE.out]; exact w2)]) HS.out F0)
      clear HPP
      go_enter Tryz.func52, Tryz.ntmps52
      go_upto_region 1 with fail
      change Code.wp _ _ _ _ ((w.alloc (.cells #[.slice a0 N c0, .slice (some ⟨g1, 0, none⟩) B c1, .slice (some ⟨g2, 0, none⟩) B c2, .slice (some ⟨g3, 0, none⟩) B c3] 58)).alloc (.cells #[.int .i64 yid, .int .i64 ytm, .int .i64 3, .int .i64 (kb : Nat), .int .i64 ybd, .int .i64 ym1, .int .i64 ym2, .int .i64 ysl] 54))
      rw [← HW1.out, ← HPB.out]
      go_wp2_with fail
      first | exact HZ.out | (go_ret; exact HZ.out)
    · have HZ := Lib.hid (fun (W : World) (hg : G W1 W) => HPP.out (((W.setCell ⟨g1, kb, none⟩ (.int .i64 ysl)).setCell ⟨g2, kb, none⟩ (.int .i64 ytm)).setCell ⟨g3, kb, none⟩ (.int .i64 0)) { s with se := up s.se (kb : Nat) ysl, si := up s.si (kb : Nat) ytm, wg := up s.wg (kb : Nat) 0 } true (by unfold hapR; rw [if_neg (by simp), if_neg (by simp), if_pos rfl, if_neg (by show ¬ s.se kb ≠ 0; rw [HSE.out]; omega)]) ((((HS.out.keep hg).put1 hkb ysl).put2 hkb ytm).put3 hkb 0) ((((F0.g hg).s (p := ⟨g1, kb, none⟩) (.inl (.inr (.inl rfl))) _).s (p := ⟨g2, kb, none⟩) (.inl (.inr (.inr (.inl rfl)))) _).s (p := ⟨g3, kb, none⟩) (.inl (.inr (.inr (.inr rfl)))) _))
      clear HPP
      subst w2
      go_enter Tryz.func52, Tryz.ntmps52
      go_upto_region 1 with fail
      change Code.wp _ _ _ _ ((w.alloc (.cells #[.slice a0 N c0, .slice (some ⟨g1, 0, none⟩) B c1, .slice (some ⟨g2, 0, none⟩) B c2, .slice (some ⟨g3, 0, none⟩) B c3] 58)).alloc (.cells #[.int .i64 yid, .int .i64 ytm, .int .i64 3, .int .i64 (kb : Nat), .int .i64 ybd, .int .i64 ym1, .int .i64 ym2, .int .i64 ysl] 54))
      rw [← HW1.out, ← HPB.out]
      go_upto_region 14 with fail
      refine wp_region_Y (S := fun W' => Blk W' PB 58 #[.slice a0 N c0, .slice (some ⟨g1, 0, none⟩) B c1, .slice (some ⟨g2, 0, none⟩) B c2, .slice (some ⟨g3, 0, none⟩) B c3] ∧ Blk W' (PB + 1) 54 #[.int .i64 yid, .int .i64 ytm, .int .i64 3, .int .i64 (kb : Nat), .int .i64 ybd, .int .i64 ym1, .int .i64 ym2, .int .i64 ysl]) 21 22 rfl (by kernel_rfl) ⟨b0.drewN 1, d0.drewN 1⟩ (fun hS => ?_)
      have gd : G W1 W1.drew := (G.rf W1).d
      generalize W1.drew = WD at *
      refine wpAnyY_take (i := 0) (v := ?_) rfl (by kernel_rfl) (by kernel_rfl) (by kernel_rfl) (by kernel_rfl) (fun _ _ _ h => h) (Or.inl ⟨by kernel_rfl, ?_⟩) hS ?_
      rotate_left
      · intro w' hSw; go_simp; with_reducible rfl
      try simp only [Act.put, zzA, zzB, zzC, zzD, zzE, zzF]
      refine wpAnyY_take (i := 1) (v := ?_) rfl (by kernel_rfl) (by kernel_rfl) (by kernel_rfl) (by kernel_rfl) (fun _ _ _ h => h) (Or.inl ⟨by kernel_rfl, ?_⟩) hS ?_
      rotate_left
      · intro w' hSw; have s1 := hSw.1.cell 1; have s2 := hSw.1.cell 2; have s3 := hSw.1.cell 3; have ls := hSw.1.lt; have n1 := hSw.2.cell 1; have n3 := hSw.2.cell 3; have n7 := hSw.2.cell 7; have ld := hSw.2.lt; go_simp; with_reducible rfl
      try simp only [Act.put, zzA, zzB, zzC, zzD, zzE, zzF]
      refine wpAnyY_take (i := 2) (v := ?_) rfl (by kernel_rfl) (by kernel_rfl) (by kernel_rfl) (by kernel_rfl) (fun _ _ _ h => h) (Or.inl ⟨by kernel_rfl, ?_⟩) hS ?_
      rotate_left
      · intro w' hSw; go_simp; with_reducible rfl
      try simp only [Act.put, zzA, zzB, zzC, zzD, zzE, zzF]
      refine wpAnyY_take (i := 3) (v := ?_) rfl (by kernel_rfl) (by kernel_rfl) (by kernel_rfl) (by kernel_rfl) (fun _ _ _ h => h) (Or.inl ⟨by kernel_rfl, ?_⟩) hS ?_
      rotate_left
      · intro w' hSw; have s1 := hSw.1.cell 1; have s2 := hSw.1.cell 2; have s3 := hSw.1.cell 3; have ls := hSw.1.lt; have n1 := hSw.2.cell 1; have n3 := hSw.2.cell 3; have n7 := hSw.2.cell 7; have ld := hSw.2.lt; go_simp; with_reducible rfl
      try simp only [Act.put, zzA, zzB, zzC, zzD, zzE, zzF]
      refine wpAnyY_take (i := 4) (v := ?_) rfl (by kernel_rfl) (by kernel_rfl) (by kernel_rfl) (by kernel_rfl) (fun _ _ _ h => h) (Or.inl ⟨by kernel_rfl, ?_⟩) hS ?_
      rotate_left
      · intro w' hSw; go_simp; with_reducible rfl
      try simp only [Act.put, zzA, zzB, zzC, zzD, zzE, zzF]
      refine wpAnyY_take (i := 5) (v := ?_) rfl (by kernel_rfl) (by kernel_rfl) (by kernel_rfl) (by kernel_rfl) (fun _ _ _ h => h) (Or.inl ⟨by kernel_rfl, ?_⟩) hS ?_
      rotate_left
      · intro w' hSw; have s1 := hSw.1.cell 1; have s2 := hSw.1.cell 2; have s3 := hSw.1.cell 3; have ls := hSw.1.lt; have n1 := hSw.2.cell 1; have n3 := hSw.2.cell 3; have n7 := hSw.2.cell 7; have ld := hSw.2.lt; go_simp; with_reducible rfl
      try simp only [Act.put, zzA, zzB, zzC, zzD, zzE, zzF]
      refine wpAnyY_take (i := 6) (v := ?_) rfl (by kernel_rfl) (by kernel_rfl) (by kernel_rfl) (by kernel_rfl) (fun _ _ _ h => h) (Or.inl ⟨by kernel_rfl, ?_⟩) hS ?_
      rotate_left
      · intro w' hSw; go_simp; with_reducible rfl
      try simp only [Act.put, zzA, zzB, zzC, zzD, zzE, zzF]
      refine wpAnyY_take (i := 7) (v := ?_) rfl (by kernel_rfl) (by kernel_rfl) (by kernel_rfl) (by kernel_rfl) (fun _ _ _ h => h) (Or.inl ⟨by kernel_rfl, ?_⟩) hS ?_
      rotate_left
      · intro w' hSw; have s1 := hSw.1.cell 1; have s2 := hSw.1.cell 2; have s3 := hSw.1.cell 3; have ls := hSw.1.lt; have n1 := hSw.2.cell 1; have n3 := hSw.2.cell 3; have n7 := hSw.2.cell 7; have ld := hSw.2.lt; go_simp; with_reducible rfl
      try simp only [Act.put, zzA, zzB, zzC, zzD, zzE, zzF]
      refine wpAnyY_take (i := 8) (v := ?_) rfl (by kernel_rfl) (by kernel_rfl) (by kernel_rfl) (by kernel_rfl) (fun _ _ _ h => h) (Or.inl ⟨by kernel_rfl, ?_⟩) hS ?_
      rotate_left
      · intro w' hSw; go_simp; with_reducible rfl
      try simp only [Act.put, zzA, zzB, zzC, zzD, zzE, zzF]
      refine wpAnyY_take (i := 9) (v := ?_) rfl (by kernel_rfl) (by kernel_rfl) (by kernel_rfl) (by kernel_rfl) (fun _ _ _ h => h) (Or.inl ⟨by kernel_rfl, ?_⟩) hS ?_
      rotate_left
      · intro w' hSw; have s1 := hSw.1.cell 1; have s2 := hSw.1.cell 2; have s3 := hSw.1.cell 3; have ls := hSw.1.lt; have n1 := hSw.2.cell 1; have n3 := hSw.2.cell 3; have n7 := hSw.2.cell 7; have ld := hSw.2.lt; go_simp; with_reducible rfl
      try simp only [Act.put, zzA, zzB, zzC, zzD, zzE, zzF]
      refine wpAnyY_take (i := 10) (v := ?_) rfl (by kernel_rfl) (by kernel_rfl) (by kernel_rfl) (by kernel_rfl) (fun _ _ _ h => h) (Or.inl ⟨by kernel_rfl, ?_⟩) hS ?_
      rotate_left
      · intro w' hSw; go_simp; with_reducible rfl
      try simp only [Act.put, zzA, zzB, zzC, zzD, zzE, zzF]
      refine wpAnyY_take (i := 11) (v := ?_) rfl (by kernel_rfl) (by kernel_rfl) (by kernel_rfl) (by kernel_rfl) (fun _ _ _ h => h) (Or.inl ⟨by kernel_rfl, ?_⟩) hS ?_
      rotate_left
      · intro w' hSw; have s1 := hSw.1.cell 1; have s2 := hSw.1.cell 2; have s3 := hSw.1.cell 3; have ls := hSw.1.lt; have n1 := hSw.2.cell 1; have n3 := hSw.2.cell 3; have n7 := hSw.2.cell 7; have ld := hSw.2.lt; go_simp; with_reducible rfl
      try simp only [Act.put, zzA, zzB, zzC, zzD, zzE, zzF]
      refine wpAnyY_take (i := 12) (v := ?_) rfl (by kernel_rfl) (by kernel_rfl) (by kernel_rfl) (by kernel_rfl) (fun _ _ _ h => h) (Or.inl ⟨by kernel_rfl, ?_⟩) hS ?_
      rotate_left
      · intro w' hSw; go_simp; with_reducible rfl
      try simp only [Act.put, zzA, zzB, zzC, zzD, zzE, zzF]
      refine wpAnyY_take (i := 13) (v := ?_) rfl (by kernel_rfl) (by kernel_rfl) (by kernel_rfl) (by kernel_rfl) (fun _ _ _ h => h) (Or.inl ⟨by kernel_rfl, ?_⟩) hS ?_
      rotate_left
      · intro w' hSw; have s1 := hSw.1.cell 1; have s2 := hSw.1.cell 2; have s3 := hSw.1.cell 3; have ls := hSw.1.lt; have n1 := hSw.2.cell 1; have n3 := hSw.2.cell 3; have n7 := hSw.2.cell 7; have ld := hSw.2.lt; go_simp; with_reducible rfl
      try simp only [Act.put, zzA, zzB, zzC, zzD, zzE, zzF]
      refine wpAnyY_take (i := 14) (v := ?_) rfl (by kernel_rfl) (by kernel_rfl) (by kernel_rfl) (by kernel_rfl) (fun _ _ _ h => h) (Or.inl ⟨by kernel_rfl, ?_⟩) hS ?_
      rotate_left
      · intro w' hSw; go_simp; with_reducible rfl
      try simp only [Act.put, zzA, zzB, zzC, zzD, zzE, zzF]
      refine wpAnyY_take (i := 15) (v := ?_) rfl (by kernel_rfl) (by kernel_rfl) (by kernel_rfl) (by kernel_rfl) (fun _ _ _ h => h) (Or.inl ⟨by kernel_rfl, ?_⟩) hS ?_
      rotate_left
      · intro w' hSw; have s1 := hSw.1.cell 1; have s2 := hSw.1.cell 2; have s3 := hSw.1.cell 3; have ls := hSw.1.lt; have n1 := hSw.2.cell 1; have n3 := hSw.2.cell 3; have n7 := hSw.2.cell 7; have ld := hSw.2.lt; go_simp; with_reducible rfl
      try simp only [Act.put, zzA, zzB, zzC, zzD, zzE, zzF]
      refine wpAnyY_take (i := 16) (v := ?_) rfl (by kernel_rfl) (by kernel_rfl) (by kernel_rfl) (by kernel_rfl) (fun _ _ _ h => h) (Or.inl ⟨by kernel_rfl, ?_⟩) hS ?_
      rotate_left
      · intro w' hSw; go_simp; with_reducible rfl
      try simp only [Act.put, zzA, zzB, zzC, zzD, zzE, zzF]
      have t1 := HS.out.keep gd
      clear q1 q2 q3 z1 z2 z3 l1 l2 l3 s0 s1 s2 s3 ls n1 n2 n3 n4 n7 ld
      have q1 := t1.r1.cell hkb
      have z1 := t1.r1.frozen kb
      have l1 := t1.r1.lt
      refine wpAnyY_oneSW (i := 17) (by kernel_rfl) rfl (by kernel_rfl) (fun K17 hK17 => ?_)
      go_simp
      refine hK17.out _ _ ⟨hS.1.far (p := ⟨g1, kb, none⟩) (by show PB ≠ g1; have := HSZ.out; have := HPB.out; omega) _, hS.2.far (p := ⟨g1, kb, none⟩) (by show PB + 1 ≠ g1; have := HSZ.out; have := HPB.out; omega) _⟩ (fun hS => ?_)
      clear hK17 q1 z1 l1
      try simp only [Act.put, zzA, zzB, zzC, zzD, zzE, zzF]
      refine wpAnyY_take (i := 18) (v := ?_) rfl (by kernel_rfl) (by kernel_rfl) (by kernel_rfl) (by kernel_rfl) (fun _ _ _ h => h) (Or.inl ⟨by kernel_rfl, ?_⟩) hS ?_
      rotate_left
      · intro w' hSw; go_simp; with_reducible rfl
      try simp only [Act.put, zzA, zzB, zzC, zzD, zzE, zzF]
      have t2 := t1.put1 hkb ysl
      have q2 := t2.r2.cell hkb
      have z2 := t2.r2.frozen kb
      have l2 := t2.r2.lt
      refine wpAnyY_oneSW (i := 19) (by kernel_rfl) rfl (by kernel_rfl) (fun K19 hK19 => ?_)
      go_simp
      refine hK19.out _ _ ⟨hS.1.far (p := ⟨g2, kb, none⟩) (by show PB ≠ g2; have := HSZ.out; have := HPB.out; omega) _, hS.2.far (p := ⟨g2, kb, none⟩) (by show PB + 1 ≠ g2; have := HSZ.out; have := HPB.out; omega) _⟩ (fun hS => ?_)
      clear hK19 q2 z2 l2
      try simp only [Act.put, zzA, zzB, zzC, zzD, zzE, zzF]
      refine wpAnyY_take (i := 20) (v := ?_) rfl (by kernel_rfl) (by kernel_rfl) (by kernel_rfl) (by kernel_rfl) (fun _ _ _ h => h) (Or.inl ⟨by kernel_rfl, ?_⟩) hS ?_
      rotate_left
      · intro w' hSw; go_simp; with_reducible rfl
      try simp only [Act.put, zzA, zzB, zzC, zzD, zzE, zzF]
      have t3 := t2.put2 hkb ytm
      have q3 := t3.r3.cell hkb
      have z3 := t3.r3.frozen kb
      have l3 := t3.r3.lt
      refine wpAnyY_oneW (i := 21) (by kernel_rfl) rfl (by kernel_rfl) (by kernel_rfl) (fun K21 hK21 => ?_)
      go_simp
      refine hK21.out _ _ ?_
      clear hK21
      try simp only [Act.put, zzA, zzB, zzC, zzD, zzE, zzF]
      clear q3 z3 l3 hS
      refine wpAnyY_done (by kernel_rfl) ?_ _
      go_wp2_with fail
      first | exact HZ.out _ gd | (go_ret; exact HZ.out _ gd)
  have j3 : (ykd == 3) = false := by simpa using k3
  have hk45 : ykd = 4 ∨ ykd = 5 := by omega
  clear hk k1 k2 k3 j1 j2 j3
  rcases hk45 with rfl | rfl
  · by_cases w2 : SE = 0
    · have HZ := Lib.hid (HPP.out W1 s false (by unfold hapR; rw [if_neg (by simp), if_neg (by simp), if_neg (by simp), if_pos (.inl (by show s.se kb = 0; rw [HSE.out]; exact w2))]) HS.out F0)
      clear HPP
      subst w2
      go_enter Tryz.func52, Tryz.ntmps52
      go_upto_region 1 with fail
      change Code.wp _ _ _ _ ((w.alloc (.cells #[.slice a0 N c0, .slice (some ⟨g1, 0, none⟩) B c1, .slice (some ⟨g2, 0, none⟩) B c2, .slice (some ⟨g3, 0, none⟩) B c3] 58)).alloc (.cells #[.int .i64 yid, .int .i64 ytm, .int .i64 4, .int .i64 (kb : Nat), .int .i64 ybd, .int .i64 ym1, .int .i64 ym2, .int .i64 ysl] 54))
      rw [← HW1.out, ← HPB.out]
      go_wp2_with fail
      first | exact HZ.out | (go_ret; exact HZ.out)
    have w2b : (SE == 0) = false := by simpa using w2
    by_cases w3 : ysl = SE
    · have w3b : (ysl == SE) = true := by simpa using w3
      by_cases w4 : WG = 1
      · have HZ := Lib.hid (HPP.out W1 s false (by unfold hapR; rw [if_neg (by simp), if_neg (by simp), if_neg (by simp), if_pos (.inr ⟨by show ysl = s.se kb; rw [HSE.out]; exact w3, by show s.wg kb = 1; rw [HWG.out]; exact w4⟩)]) HS.out F0)
        clear HPP w2 w3
        subst w4
        go_enter Tryz.func52, Tryz.ntmps52
        go_upto_region 1 with fail
        change Code.wp _ _ _ _ ((w.alloc (.cells #[.slice a0 N c0, .slice (some ⟨g1, 0, none⟩) B c1, .slice (some ⟨g2, 0, none⟩) B c2, .slice (some ⟨g3, 0, none⟩) B c3] 58)).alloc (.cells #[.int .i64 yid, .int .i64 ytm, .int .i64 4, .int .i64 (kb : Nat), .int .i64 ybd, .int .i64 ym1, .int .i64 ym2, .int .i64 ysl] 54))
        rw [← HW1.out, ← HPB.out]
        go_wp2_with fail
        first | exact HZ.out | (go_ret; exact HZ.out)
      · have w4b : (WG == 1) = false := by simpa using w4
        have HZ := Lib.hid (fun (W5 : World) (hw : W5 = W1.setCell ⟨g2, kb, none⟩ (.int .i64 ytm)) => HPP.out W5 { s with si := up s.si (kb : Nat) ytm, se := s.se } true (by unfold hapR; rw [if_neg (by simp), if_neg (by simp), if_neg (by simp), if_neg (by show ¬ (s.se kb = 0 ∨ ysl = s.se kb ∧ s.wg kb = 1); rw [HSE.out, HWG.out]; exact fun e => e.elim w2 (fun e => w4 e.2)), if_pos (by show ysl = s.se kb; rw [HSE.out]; exact w3)]; rfl) (by rw [hw]; exact (HS.out.put2 hkb ytm)) (by rw [hw]; exact (F0.s (p := ⟨g2, kb, none⟩) (.inl (.inr (.inr (.inl rfl)))) _)))
        clear HPP w2 w4 w3
        have HZ2 := Lib.hid (HZ.out _ rfl)
        clear HZ
        go_enter Tryz.func52, Tryz.ntmps52
        go_upto_region 1 with fail
        change Code.wp _ _ _ _ ((w.alloc (.cells #[.slice a0 N c0, .slice (some ⟨g1, 0, none⟩) B c1, .slice (some ⟨g2, 0, none⟩) B c2, .slice (some ⟨g3, 0, none⟩) B c3] 58)).alloc (.cells #[.int .i64 yid, .int .i64 ytm, .int .i64 4, .int .i64 (kb : Nat), .int .i64 ybd, .int .i64 ym1, .int .i64 ym2, .int .i64 ysl] 54))
        rw [← HW1.out, ← HPB.out]
        go_upto_region 24 with fail
        have t5 := HS.out.put2 hkb ytm
        have b5 := b0.far (p := ⟨g2, kb, none⟩) (by show PB ≠ g2; have := HSZ.out; have := HPB.out; omega) (.int .i64 ytm)
        have d5 := d0.far (p := ⟨g2, kb, none⟩) (by show PB + 1 ≠ g2; have := HSZ.out; have := HPB.out; omega) (.int .i64 ytm)
        clear q1 q2 q3 z1 z2 z3 l1 l2 l3 s0 s1 s2 s3 ls n1 n2 n3 n4 n7 ld
        try change Code.wp _ _ _ _ (W1.setCell ⟨g2, kb, none⟩ (.int .i64 ytm))
        generalize W1.setCell ⟨g2, kb, none⟩ (.int .i64 ytm) = W5 at *
        have s1 := b5.cell 1
        have ls := b5.lt
        have n2 := d5.cell 2
        have n3 := d5.cell 3
        have ld := d5.lt
        have q1 := t5.r1.cell hkb
        have z1 := t5.r1.frozen kb
        have l1 := t5.r1.lt
        go_wp2_with fail
        first | exact HZ2.out | (go_ret; exact HZ2.out)
    have w3b : (ysl == SE) = false := by simpa using w3
    by_cases w5 : WG = 0
    · by_cases w6 : SI = ytm
      · have HZ := Lib.hid (fun (W : World) (hg : G W1 W) => HPP.out W s false (by unfold hapR; rw [if_neg (by simp), if_neg (by simp), if_neg (by simp), if_neg (by show ¬ (s.se kb = 0 ∨ ysl = s.se kb ∧ s.wg kb = 1); rw [HSE.out, HWG.out]; exact fun e => e.elim w2 (fun e => w3 e.1)), if_neg (by show ¬ ysl = s.se kb; rw [HSE.out]; exact w3), if_pos ⟨by show s.wg kb = 0; rw [HWG.out]; exact w5, by show s.si kb = ytm; rw [HSI.out]; exact w6⟩]) (HS.out.keep hg) (F0.g hg))
        clear HPP w2 w3
        have w6b : (SI == ytm) = true := by simpa using w6
        clear w6
        subst w5
        go_enter Tryz.func52, Tryz.ntmps52
        go_upto_region 1 with fail
        change Code.wp _ _ _ _ ((w.alloc (.cells #[.slice a0 N c0, .slice (some ⟨g1, 0, none⟩) B c1, .slice (some ⟨g2, 0, none⟩) B c2, .slice (some ⟨g3, 0, none⟩) B c3] 58)).alloc (.cells #[.int .i64 yid, .int .i64 ytm, .int .i64 4, .int .i64 (kb : Nat), .int .i64 ybd, .int .i64 ym1, .int .i64 ym2, .int .i64 ysl] 54))
        rw [← HW1.out, ← HPB.out]
        go_upto_region 21 with fail
        refine wp_region_Y (S := fun W' => G W1 W') 17 18 rfl (by kernel_rfl) ((G.rf W1).d) (fun hS => ?_)
        have gd : G W1 W1.drew := (G.rf W1).d
        generalize W1.drew = WD at *
        refine wpAnyY_take (i := 0) (v := ?_) rfl (by kernel_rfl) (by kernel_rfl) (by kernel_rfl) (by kernel_rfl) (fun _ _ _ h => h) (Or.inl ⟨by kernel_rfl, ?_⟩) hS ?_
        rotate_left
        · intro w' hSw; go_simp; with_reducible rfl
        try simp only [Act.put, zzA, zzB, zzC, zzD, zzE, zzF]
        refine wpAnyY_take (i := 1) (v := ?_) rfl (by kernel_rfl) (by kernel_rfl) (by kernel_rfl) (by kernel_rfl) (fun _ _ _ h => h) (Or.inl ⟨by kernel_rfl, ?_⟩) hS ?_
        rotate_left
        · intro w' hSw; have s2 := (b0.keep hSw).cell 2; have s3 := (b0.keep hSw).cell 3; have ls := (b0.keep hSw).lt; have n1 := (d0.keep hSw).cell 1; have n3 := (d0.keep hSw).cell 3; have ld := (d0.keep hSw).lt; have q2 := ((bcellB hSw).1 g2 kb l2).trans q2; have q3 := ((bcellB hSw).1 g3 kb l3).trans q3; have l2 := Nat.lt_of_lt_of_le l2 hSw.size; have l3 := Nat.lt_of_lt_of_le l3 hSw.size; go_simp; with_reducible rfl
        try simp only [Act.put, zzA, zzB, zzC, zzD, zzE, zzF]
        refine wpAnyY_take (i := 2) (v := ?_) rfl (by kernel_rfl) (by kernel_rfl) (by kernel_rfl) (by kernel_rfl) (fun _ _ _ h => h) (Or.inl ⟨by kernel_rfl, ?_⟩) hS ?_
        rotate_left
        · intro w' hSw; go_simp; with_reducible rfl
        try simp only [Act.put, zzA, zzB, zzC, zzD, zzE, zzF]
        refine wpAnyY_take (i := 3) (v := ?_) rfl (by kernel_rfl) (by kernel_rfl) (by kernel_rfl) (by kernel_rfl) (fun _ _ _ h => h) (Or.inl ⟨by kernel_rfl, ?_⟩) hS ?_
        rotate_left
        · intro w' hSw; have s2 := (b0.keep hSw).cell 2; have s3 := (b0.keep hSw).cell 3; have ls := (b0.keep hSw).lt; have n1 := (d0.keep hSw).cell 1; have n3 := (d0.keep hSw).cell 3; have ld := (d0.keep hSw).lt; have q2 := ((bcellB hSw).1 g2 kb l2).trans q2; have q3 := ((bcellB hSw).1 g3 kb l3).trans q3; have l2 := Nat.lt_of_lt_of_le l2 hSw.size; have l3 := Nat.lt_of_lt_of_le l3 hSw.size; go_simp; with_reducible rfl
        try simp only [Act.put, zzA, zzB, zzC, zzD, zzE, zzF]
        refine wpAnyY_take (i := 4) (v := ?_) rfl (by kernel_rfl) (by kernel_rfl) (by kernel_rfl) (by kernel_rfl) (fun _ _ _ h => h) (Or.inl ⟨by kernel_rfl, ?_⟩) hS ?_
        rotate_left
        · intro w' hSw; go_simp; with_reducible rfl
        try simp only [Act.put, zzA, zzB, zzC, zzD, zzE, zzF]
        refine wpAnyY_take (i := 5) (v := ?_) rfl (by kernel_rfl) (by kernel_rfl) (by kernel_rfl) (by kernel_rfl) (fun _ _ _ h => h) (Or.inl ⟨by kernel_rfl, ?_⟩) hS ?_
        rotate_left
        · intro w' hSw; have s2 := (b0.keep hSw).cell 2; have s3 := (b0.keep hSw).cell 3; have ls := (b0.keep hSw).lt; have n1 := (d0.keep hSw).cell 1; have n3 := (d0.keep hSw).cell 3; have ld := (d0.keep hSw).lt; have q2 := ((bcellB hSw).1 g2 kb l2).trans q2; have q3 := ((bcellB hSw).1 g3 kb l3).trans q3; have l2 := Nat.lt_of_lt_of_le l2 hSw.size; have l3 := Nat.lt_of_lt_of_le l3 hSw.size; go_simp; with_reducible rfl
        try simp only [Act.put, zzA, zzB, zzC, zzD, zzE, zzF]
        refine wpAnyY_take (i := 6) (v := ?_) rfl (by kernel_rfl) (by kernel_rfl) (by kernel_rfl) (by kernel_rfl) (fun _ _ _ h => h) (Or.inl ⟨by kernel_rfl, ?_⟩) hS ?_
        rotate_left
        · intro w' hSw; go_simp; with_reducible rfl
        try simp only [Act.put, zzA, zzB, zzC, zzD, zzE, zzF]
        refine wpAnyY_take (i := 7) (v := ?_) rfl (by kernel_rfl) (by kernel_rfl) (by kernel_rfl) (by kernel_rfl) (fun _ _ _ h => h) (Or.inl ⟨by kernel_rfl, ?_⟩) hS ?_
        rotate_left
        · intro w' hSw; go_simp; with_reducible rfl
        try simp only [Act.put, zzA, zzB, zzC, zzD, zzE, zzF]
        refine wpAnyY_take (i := 8) (v := ?_) rfl (by kernel_rfl) (by kernel_rfl) (by kernel_rfl) (by kernel_rfl) (fun _ _ _ h => h) (Or.inl ⟨by kernel_rfl, ?_⟩) hS ?_
        rotate_left
        · intro w' hSw; go_simp; with_reducible rfl
        try simp only [Act.put, zzA, zzB, zzC, zzD, zzE, zzF]
        refine wpAnyY_take (i := 9) (v := ?_) rfl (by kernel_rfl) (by kernel_rfl) (by kernel_rfl) (by kernel_rfl) (fun _ _ _ h => h) (Or.inl ⟨by kernel_rfl, ?_⟩) hS ?_
        rotate_left
        · intro w' hSw; have s2 := (b0.keep hSw).cell 2; have s3 := (b0.keep hSw).cell 3; have ls := (b0.keep hSw).lt; have n1 := (d0.keep hSw).cell 1; have n3 := (d0.keep hSw).cell 3; have ld := (d0.keep hSw).lt; have q2 := ((bcellB hSw).1 g2 kb l2).trans q2; have q3 := ((bcellB hSw).1 g3 kb l3).trans q3; have l2 := Nat.lt_of_lt_of_le l2 hSw.size; have l3 := Nat.lt_of_lt_of_le l3 hSw.size; go_simp; with_reducible rfl
        try simp only [Act.put, zzA, zzB, zzC, zzD, zzE, zzF]
        refine wpAnyY_take (i := 10) (v := ?_) rfl (by kernel_rfl) (by kernel_rfl) (by kernel_rfl) (by kernel_rfl) (fun _ _ _ h => h) (Or.inl ⟨by kernel_rfl, ?_⟩) hS ?_
        rotate_left
        · intro w' hSw; go_simp; with_reducible rfl
        try simp only [Act.put, zzA, zzB, zzC, zzD, zzE, zzF]
        refine wpAnyY_take (i := 11) (v := ?_) rfl (by kernel_rfl) (by kernel_rfl) (by kernel_rfl) (by kernel_rfl) (fun _ _ _ h => h) (Or.inl ⟨by kernel_rfl, ?_⟩) hS ?_
        rotate_left
        · intro w' hSw; have s2 := (b0.keep hSw).cell 2; have s3 := (b0.keep hSw).cell 3; have ls := (b0.keep hSw).lt; have n1 := (d0.keep hSw).cell 1; have n3 := (d0.keep hSw).cell 3; have ld := (d0.keep hSw).lt; have q2 := ((bcellB hSw).1 g2 kb l2).trans q2; have q3 := ((bcellB hSw).1 g3 kb l3).trans q3; have l2 := Nat.lt_of_lt_of_le l2 hSw.size; have l3 := Nat.lt_of_lt_of_le l3 hSw.size; go_simp; with_reducible rfl
        try simp only [Act.put, zzA, zzB, zzC, zzD, zzE, zzF]
        refine wpAnyY_take (i := 12) (v := ?_) rfl (by kernel_rfl) (by kernel_rfl) (by kernel_rfl) (by kernel_rfl) (fun _ _ _ h => h) (Or.inl ⟨by kernel_rfl, ?_⟩) hS ?_
        rotate_left
        · intro w' hSw; go_simp; with_reducible rfl
        try simp only [Act.put, zzA, zzB, zzC, zzD, zzE, zzF]
        refine wpAnyY_take (i := 13) (v := ?_) rfl (by kernel_rfl) (by kernel_rfl) (by kernel_rfl) (by kernel_rfl) (fun _ _ _ h => h) (Or.inl ⟨by kernel_rfl, ?_⟩) hS ?_
        rotate_left
        · intro w' hSw; have s2 := (b0.keep hSw).cell 2; have s3 := (b0.keep hSw).cell 3; have ls := (b0.keep hSw).lt; have n1 := (d0.keep hSw).cell 1; have n3 := (d0.keep hSw).cell 3; have ld := (d0.keep hSw).lt; have q2 := ((bcellB hSw).1 g2 kb l2).trans q2; have q3 := ((bcellB hSw).1 g3 kb l3).trans q3; have l2 := Nat.lt_of_lt_of_le l2 hSw.size; have l3 := Nat.lt_of_lt_of_le l3 hSw.size; go_simp; with_reducible rfl
        try simp only [Act.put, zzA, zzB, zzC, zzD, zzE, zzF]
        refine wpAnyY_take (i := 14) (v := ?_) rfl (by kernel_rfl) (by kernel_rfl) (by kernel_rfl) (by kernel_rfl) (fun _ _ _ h => h) (Or.inl ⟨by kernel_rfl, ?_⟩) hS ?_
        rotate_left
        · intro w' hSw; go_simp; with_reducible rfl
        try simp only [Act.put, zzA, zzB, zzC, zzD, zzE, zzF]
        refine wpAnyY_take (i := 15) (v := ?_) rfl (by kernel_rfl) (by kernel_rfl) (by kernel_rfl) (by kernel_rfl) (fun _ _ _ h => h) (Or.inl ⟨by kernel_rfl, ?_⟩) hS ?_
        rotate_left
        · intro w' hSw; have s2 := (b0.keep hSw).cell 2; have s3 := (b0.keep hSw).cell 3; have ls := (b0.keep hSw).lt; have n1 := (d0.keep hSw).cell 1; have n3 := (d0.keep hSw).cell 3; have ld := (d0.keep hSw).lt; have q2 := ((bcellB hSw).1 g2 kb l2).trans q2; have q3 := ((bcellB hSw).1 g3 kb l3).trans q3; have l2 := Nat.lt_of_lt_of_le l2 hSw.size; have l3 := Nat.lt_of_lt_of_le l3 hSw.size; go_simp; with_reducible rfl
        try simp only [Act.put, zzA, zzB, zzC, zzD, zzE, zzF]
        refine wpAnyY_take (i := 16) (v := ?_) rfl (by kernel_rfl) (by kernel_rfl) (by kernel_rfl) (by kernel_rfl) (fun _ _ _ h => h) (Or.inl ⟨by kernel_rfl, ?_⟩) hS ?_
        rotate_left
        · intro w' hSw; go_simp; with_reducible rfl
        try simp only [Act.put, zzA, zzB, zzC, zzD, zzE, zzF]
        refine wpAnyY_oneW (i := 17) (by kernel_rfl) rfl (by kernel_rfl) (by kernel_rfl) (fun K17 hK17 => ?_)
        go_simp
        refine hK17.out _ _ ?_
        clear hK17
        try simp only [Act.put, zzA, zzB, zzC, zzD, zzE, zzF]
        refine wpAnyY_done (by kernel_rfl) ?_ _
        clear hS
        go_wp2_with fail
        first | exact HZ.out _ gd | (go_ret; exact HZ.out _ gd)
      · have w6b : (SI == ytm) = false := by simpa using w6
        have HZ := Lib.hid (fun (W W5 : World) (hg : G W1 W) (hw : W5 = W.setCell ⟨g3, kb, none⟩ (.int .i64 1)) => HPP.out W5 { s with wg := up s.wg (kb : Nat) 1, se := s.se } true (by unfold hapR; rw [if_neg (by simp), if_neg (by simp), if_neg (by simp), if_neg (by show ¬ (s.se kb = 0 ∨ ysl = s.se kb ∧ s.wg kb = 1); rw [HSE.out, HWG.out]; exact fun e => e.elim w2 (fun e => w3 e.1)), if_neg (by show ¬ ysl = s.se kb; rw [HSE.out]; exact w3), if_neg (by show ¬ (s.wg kb = 0 ∧ s.si kb = ytm); rw [HWG.out, HSI.out]; exact fun e => w6 e.2)]; rfl) (by rw [hw]; exact ((HS.out.keep hg).put3 hkb 1)) (by rw [hw]; exact ((F0.g hg).s (p := ⟨g3, kb, none⟩) (.inl (.inr (.inr (.inr rfl)))) _)))
        clear HPP w2 w3 w6
        subst w5
        go_enter Tryz.func52, Tryz.ntmps52
        go_upto_region 1 with fail
        change Code.wp _ _ _ _ ((w.alloc (.cells #[.slice a0 N c0, .slice (some ⟨g1, 0, none⟩) B c1, .slice (some ⟨g2, 0, none⟩) B c2, .slice (some ⟨g3, 0, none⟩) B c3] 58)).alloc (.cells #[.int .i64 yid, .int .i64 ytm, .int .i64 4, .int .i64 (kb : Nat), .int .i64 ybd, .int .i64 ym1, .int .i64 ym2, .int .i64 ysl] 54))
        rw [← HW1.out, ← HPB.out]
        go_upto_region 21 with fail
        refine wp_region_Y (S := fun W' => G W1 W') 17 18 rfl (by kernel_rfl) ((G.rf W1).d) (fun hS => ?_)
        have gd : G W1 W1.drew := (G.rf W1).d
        generalize W1.drew = WD at *
        refine wpAnyY_take (i := 0) (v := ?_) rfl (by kernel_rfl) (by kernel_rfl) (by kernel_rfl) (by kernel_rfl) (fun _ _ _ h => h) (Or.inl ⟨by kernel_rfl, ?_⟩) hS ?_
        rotate_left
        · intro w' hSw; go_simp; with_reducible rfl
        try simp only [Act.put, zzA, zzB, zzC, zzD, zzE, zzF]
        refine wpAnyY_take (i := 1) (v := ?_) rfl (by kernel_rfl) (by kernel_rfl) (by kernel_rfl) (by kernel_rfl) (fun _ _ _ h => h) (Or.inl ⟨by kernel_rfl, ?_⟩) hS ?_
        rotate_left
        · intro w' hSw; have s2 := (b0.keep hSw).cell 2; have s3 := (b0.keep hSw).cell 3; have ls := (b0.keep hSw).lt; have n1 := (d0.keep hSw).cell 1; have n3 := (d0.keep hSw).cell 3; have ld := (d0.keep hSw).lt; have q2 := ((bcellB hSw).1 g2 kb l2).trans q2; have q3 := ((bcellB hSw).1 g3 kb l3).trans q3; have l2 := Nat.lt_of_lt_of_le l2 hSw.size; have l3 := Nat.lt_of_lt_of_le l3 hSw.size; go_simp; with_reducible rfl
        try simp only [Act.put, zzA, zzB, zzC, zzD, zzE, zzF]
        refine wpAnyY_take (i := 2) (v := ?_) rfl (by kernel_rfl) (by kernel_rfl) (by kernel_rfl) (by kernel_rfl) (fun _ _ _ h => h) (Or.inl ⟨by kernel_rfl, ?_⟩) hS ?_
        rotate_left
        · intro w' hSw; go_simp; with_reducible rfl
        try simp only [Act.put, zzA, zzB, zzC, zzD, zzE, zzF]
        refine wpAnyY_take (i := 3) (v := ?_) rfl (by kernel_rfl) (by kernel_rfl) (by kernel_rfl) (by kernel_rfl) (fun _ _ _ h => h) (Or.inl ⟨by kernel_rfl, ?_⟩) hS ?_
        rotate_left
        · intro w' hSw; have s2 := (b0.keep hSw).cell 2; have s3 := (b0.keep hSw).cell 3; have ls := (b0.keep hSw).lt; have n1 := (d0.keep hSw).cell 1; have n3 := (d0.keep hSw).cell 3; have ld := (d0.keep hSw).lt; have q2 := ((bcellB hSw).1 g2 kb l2).trans q2; have q3 := ((bcellB hSw).1 g3 kb l3).trans q3; have l2 := Nat.lt_of_lt_of_le l2 hSw.size; have l3 := Nat.lt_of_lt_of_le l3 hSw.size; go_simp; with_reducible rfl
        try simp only [Act.put, zzA, zzB, zzC, zzD, zzE, zzF]
        refine wpAnyY_take (i := 4) (v := ?_) rfl (by kernel_rfl) (by kernel_rfl) (by kernel_rfl) (by kernel_rfl) (fun _ _ _ h => h) (Or.inl ⟨by kernel_rfl, ?_⟩) hS ?_
        rotate_left
        · intro w' hSw; go_simp; with_reducible rfl
        try simp only [Act.put, zzA, zzB, zzC, zzD, zzE, zzF]
        refine wpAnyY_take (i := 5) (v := ?_) rfl (by kernel_rfl) (by kernel_rfl) (by kernel_rfl) (by kernel_rfl) (fun _ _ _ h => h) (Or.inl ⟨by kernel_rfl, ?_⟩) hS ?_
        rotate_left
        · intro w' hSw; have s2 := (b0.keep hSw).cell 2; have s3 := (b0.keep hSw).cell 3; have ls := (b0.keep hSw).lt; have n1 := (d0.keep hSw).cell 1; have n3 := (d0.keep hSw).cell 3; have ld := (d0.keep hSw).lt; have q2 := ((bcellB hSw).1 g2 kb l2).trans q2; have q3 := ((bcellB hSw).1 g3 kb l3).trans q3; have l2 := Nat.lt_of_lt_of_le l2 hSw.size; have l3 := Nat.lt_of_lt_of_le l3 hSw.size; go_simp; with_reducible rfl
        try simp only [Act.put, zzA, zzB, zzC, zzD, zzE, zzF]
        refine wpAnyY_take (i := 6) (v := ?_) rfl (by kernel_rfl) (by kernel_rfl) (by kernel_rfl) (by kernel_rfl) (fun _ _ _ h => h) (Or.inl ⟨by kernel_rfl, ?_⟩) hS ?_
        rotate_left
        · intro w' hSw; go_simp; with_reducible rfl
        try simp only [Act.put, zzA, zzB, zzC, zzD, zzE, zzF]
        refine wpAnyY_take (i := 7) (v := ?_) rfl (by kernel_rfl) (by kernel_rfl) (by kernel_rfl) (by kernel_rfl) (fun _ _ _ h => h) (Or.inl ⟨by kernel_rfl, ?_⟩) hS ?_
        rotate_left
        · intro w' hSw; go_simp; with_reducible rfl
        try simp only [Act.put, zzA, zzB, zzC, zzD, zzE, zzF]
        refine wpAnyY_take (i := 8) (v := ?_) rfl (by kernel_rfl) (by kernel_rfl) (by kernel_rfl) (by kernel_rfl) (fun _ _ _ h => h) (Or.inl ⟨by kernel_rfl, ?_⟩) hS ?_
        rotate_left
        · intro w' hSw; go_simp; with_reducible rfl
        try simp only [Act.put, zzA, zzB, zzC, zzD, zzE, zzF]
        refine wpAnyY_take (i := 9) (v := ?_) rfl (by kernel_rfl) (by kernel_rfl) (by kernel_rfl) (by kernel_rfl) (fun _ _ _ h => h) (Or.inl ⟨by kernel_rfl, ?_⟩) hS ?_
        rotate_left
        · intro w' hSw; have s2 := (b0.keep hSw).cell 2; have s3 := (b0.keep hSw).cell 3; have ls := (b0.keep hSw).lt; have n1 := (d0.keep hSw).cell 1; have n3 := (d0.keep hSw).cell 3; have ld := (d0.keep hSw).lt; have q2 := ((bcellB hSw).1 g2 kb l2).trans q2; have q3 := ((bcellB hSw).1 g3 kb l3).trans q3; have l2 := Nat.lt_of_lt_of_le l2 hSw.size; have l3 := Nat.lt_of_lt_of_le l3 hSw.size; go_simp; with_reducible rfl
        try simp only [Act.put, zzA, zzB, zzC, zzD, zzE, zzF]
        refine wpAnyY_take (i := 10) (v := ?_) rfl (by kernel_rfl) (by kernel_rfl) (by kernel_rfl) (by kernel_rfl) (fun _ _ _ h => h) (Or.inl ⟨by kernel_rfl, ?_⟩) hS ?_
        rotate_left
        · intro w' hSw; go_simp; with_reducible rfl
        try simp only [Act.put, zzA, zzB, zzC, zzD, zzE, zzF]
        refine wpAnyY_take (i := 11) (v := ?_) rfl (by kernel_rfl) (by kernel_rfl) (by kernel_rfl) (by kernel_rfl) (fun _ _ _ h => h) (Or.inl ⟨by kernel_rfl, ?_⟩) hS ?_
        rotate_left
        · intro w' hSw; have s2 := (b0.keep hSw).cell 2; have s3 := (b0.keep hSw).cell 3; have ls := (b0.keep hSw).lt; have n1 := (d0.keep hSw).cell 1; have n3 := (d0.keep hSw).cell 3; have ld := (d0.keep hSw).lt; have q2 := ((bcellB hSw).1 g2 kb l2).trans q2; have q3 := ((bcellB hSw).1 g3 kb l3).trans q3; have l2 := Nat.lt_of_lt_of_le l2 hSw.size; have l3 := Nat.lt_of_lt_of_le l3 hSw.size; go_simp; with_reducible rfl
        try simp only [Act.put, zzA, zzB, zzC, zzD, zzE, zzF]
        refine wpAnyY_take (i := 12) (v := ?_) rfl (by kernel_rfl) (by kernel_rfl) (by kernel_rfl) (by kernel_rfl) (fun _ _ _ h => h) (Or.inl ⟨by kernel_rfl, ?_⟩) hS ?_
        rotate_left
        · intro w' hSw; go_simp; with_reducible rfl
        try simp only [Act.put, zzA, zzB, zzC, zzD, zzE, zzF]
        refine wpAnyY_take (i := 13) (v := ?_) rfl (by kernel_rfl) (by kernel_rfl) (by kernel_rfl) (by kernel_rfl) (fun _ _ _ h => h) (Or.inl ⟨by kernel_rfl, ?_⟩) hS ?_
        rotate_left
        · intro w' hSw; have s2 := (b0.keep hSw).cell 2; have s3 := (b0.keep hSw).cell 3; have ls := (b0.keep hSw).lt; have n1 := (d0.keep hSw).cell 1; have n3 := (d0.keep hSw).cell 3; have ld := (d0.keep hSw).lt; have q2 := ((bcellB hSw).1 g2 kb l2).trans q2; have q3 := ((bcellB hSw).1 g3 kb l3).trans q3; have l2 := Nat.lt_of_lt_of_le l2 hSw.size; have l3 := Nat.lt_of_lt_of_le l3 hSw.size; go_simp; with_reducible rfl
        try simp only [Act.put, zzA, zzB, zzC, zzD, zzE, zzF]
        refine wpAnyY_take (i := 14) (v := ?_) rfl (by kernel_rfl) (by kernel_rfl) (by kernel_rfl) (by kernel_rfl) (fun _ _ _ h => h) (Or.inl ⟨by kernel_rfl, ?_⟩) hS ?_
        rotate_left
        · intro w' hSw; go_simp; with_reducible rfl
        try simp only [Act.put, zzA, zzB, zzC, zzD, zzE, zzF]
        refine wpAnyY_take (i := 15) (v := ?_) rfl (by kernel_rfl) (by kernel_rfl) (by kernel_rfl) (by kernel_rfl) (fun _ _ _ h => h) (Or.inl ⟨by kernel_rfl, ?_⟩) hS ?_
        rotate_left
        · intro w' hSw; have s2 := (b0.keep hSw).cell 2; have s3 := (b0.keep hSw).cell 3; have ls := (b0.keep hSw).lt; have n1 := (d0.keep hSw).cell 1; have n3 := (d0.keep hSw).cell 3; have ld := (d0.keep hSw).lt; have q2 := ((bcellB hSw).1 g2 kb l2).trans q2; have q3 := ((bcellB hSw).1 g3 kb l3).trans q3; have l2 := Nat.lt_of_lt_of_le l2 hSw.size; have l3 := Nat.lt_of_lt_of_le l3 hSw.size; go_simp; with_reducible rfl
        try simp only [Act.put, zzA, zzB, zzC, zzD, zzE, zzF]
        refine wpAnyY_take (i := 16) (v := ?_) rfl (by kernel_rfl) (by kernel_rfl) (by kernel_rfl) (by kernel_rfl) (fun _ _ _ h => h) (Or.inl ⟨by kernel_rfl, ?_⟩) hS ?_
        rotate_left
        · intro w' hSw; go_simp; with_reducible rfl
        try simp only [Act.put, zzA, zzB, zzC, zzD, zzE, zzF]
        refine wpAnyY_oneW (i := 17) (by kernel_rfl) rfl (by kernel_rfl) (by kernel_rfl) (fun K17 hK17 => ?_)
        go_simp
        refine hK17.out _ _ ?_
        clear hK17
        try simp only [Act.put, zzA, zzB, zzC, zzD, zzE, zzF]
        refine wpAnyY_done (by kernel_rfl) ?_ _
        clear hS
        have t4 := HS.out.keep gd
        have b4 := b0.keep gd
        have d4 := d0.keep gd
        have HZ2 := Lib.hid (HZ.out _ _ gd rfl)
        clear HZ q1 q2 q3 z1 z2 z3 l1 l2 l3 s0 s1 s2 s3 ls n1 n2 n3 n4 n7 ld
        have s3 := b4.cell 3
        have ls := b4.lt
        have n3 := d4.cell 3
        have ld := d4.lt
        have q3 := t4.r3.cell hkb
        have z3 := t4.r3.frozen kb
        have l3 := t4.r3.lt
        go_upto_region 23 with fail
        go_upto_region 24 with fail
        have t5 := t4.put3 hkb 1
        have b5 := b4.far (p := ⟨g3, kb, none⟩) (by show PB ≠ g3; have := HSZ.out; have := HPB.out; omega) (.int .i64 1)
        have d5 := d4.far (p := ⟨g3, kb, none⟩) (by show PB + 1 ≠ g3; have := HSZ.out; have := HPB.out; omega) (.int .i64 1)
        clear q3 z3 l3 s3 ls n3 ld
        try change Code.wp _ _ _ _ (WD.setCell ⟨g3, kb, none⟩ (.int .i64 1))
        generalize WD.setCell ⟨g3, kb, none⟩ (.int .i64 1) = W5 at *
        have s1 := b5.cell 1
        have ls := b5.lt
        have n2 := d5.cell 2
        have n3 := d5.cell 3
        have ld := d5.lt
        have q1 := t5.r1.cell hkb
        have z1 := t5.r1.frozen kb
        have l1 := t5.r1.lt
        go_wp2_with fail
        first | exact HZ2.out | (go_ret; exact HZ2.out)
    · have w5b : (WG == 0) = false := by simpa using w5
      have HZ := Lib.hid (fun (W W5 : World) (hg : G W1 W) (hw : W5 = W.setCell ⟨g3, kb, none⟩ (.int .i64 1)) => HPP.out W5 { s with wg := up s.wg (kb : Nat) 1, se := s.se } true (by unfold hapR; rw [if_neg (by simp), if_neg (by simp), if_neg (by simp), if_neg (by show ¬ (s.se kb = 0 ∨ ysl = s.se kb ∧ s.wg kb = 1); rw [HSE.out, HWG.out]; exact fun e => e.elim w2 (fun e => w3 e.1)), if_neg (by show ¬ ysl = s.se kb; rw [HSE.out]; exact w3), if_neg (by show ¬ (s.wg kb = 0 ∧ s.si kb = ytm); rw [HWG.out, HSI.out]; exact fun e => w5 e.1)]; rfl) (by rw [hw]; exact ((HS.out.keep hg).put3 hkb 1)) (by rw [hw]; exact ((F0.g hg).s (p := ⟨g3, kb, none⟩) (.inl (.inr (.inr (.inr rfl)))) _)))
      clear HPP w2 w3 w5
      go_enter Tryz.func52, Tryz.ntmps52
      go_upto_region 1 with fail
      change Code.wp _ _ _ _ ((w.alloc (.cells #[.slice a0 N c0, .slice (some ⟨g1, 0, none⟩) B c1, .slice (some ⟨g2, 0, none⟩) B c2, .slice (some ⟨g3, 0, none⟩) B c3] 58)).alloc (.cells #[.int .i64 yid, .int .i64 ytm, .int .i64 4, .int .i64 (kb : Nat), .int .i64 ybd, .int .i64 ym1, .int .i64 ym2, .int .i64 ysl] 54))
      rw [← HW1.out, ← HPB.out]
      go_upto_region 21 with fail
      refine wp_region_Y (S := fun W' => G W1 W') 17 18 rfl (by kernel_rfl) ((G.rf W1).d) (fun hS => ?_)
      have gd : G W1 W1.drew := (G.rf W1).d
      generalize W1.drew = WD at *
      refine wpAnyY_take (i := 0) (v := ?_) rfl (by kernel_rfl) (by kernel_rfl) (by kernel_rfl) (by kernel_rfl) (fun _ _ _ h => h) (Or.inl ⟨by kernel_rfl, ?_⟩) hS ?_
      rotate_left
      · intro w' hSw; go_simp; with_reducible rfl
      try simp only [Act.put, zzA, zzB, zzC, zzD, zzE, zzF]
      refine wpAnyY_take (i := 1) (v := ?_) rfl (by kernel_rfl) (by kernel_rfl) (by kernel_rfl) (by kernel_rfl) (fun _ _ _ h => h) (Or.inl ⟨by kernel_rfl, ?_⟩) hS ?_
      rotate_left
      · intro w' hSw; have s2 := (b0.keep hSw).cell 2; have s3 := (b0.keep hSw).cell 3; have ls := (b0.keep hSw).lt; have n1 := (d0.keep hSw).cell 1; have n3 := (d0.keep hSw).cell 3; have ld := (d0.keep hSw).lt; have q2 := ((bcellB hSw).1 g2 kb l2).trans q2; have q3 := ((bcellB hSw).1 g3 kb l3).trans q3; have l2 := Nat.lt_of_lt_of_le l2 hSw.size; have l3 := Nat.lt_of_lt_of_le l3 hSw.size; go_simp; with_reducible rfl
      try simp only [Act.put, zzA, zzB, zzC, zzD, zzE, zzF]
      refine wpAnyY_take (i := 2) (v := ?_) rfl (by kernel_rfl) (by kernel_rfl) (by kernel_rfl) (by kernel_rfl) (fun _ _ _ h => h) (Or.inl ⟨by kernel_rfl, ?_⟩) hS ?_
      rotate_left
      · intro w' hSw; go_simp; with_reducible rfl
      try simp only [Act.put, zzA, zzB, zzC, zzD, zzE, zzF]
      refine wpAnyY_take (i := 3) (v := ?_) rfl (by kernel_rfl) (by kernel_rfl) (by kernel_rfl) (by kernel_rfl) (fun _ _ _ h => h) (Or.inl ⟨by kernel_rfl, ?_⟩) hS ?_
      rotate_left
      · intro w' hSw; have s2 := (b0.keep hSw).cell 2; have s3 := (b0.keep hSw).cell 3; have ls := (b0.keep hSw).lt; have n1 := (d0.keep hSw).cell 1; have n3 := (d0.keep hSw).cell 3; have ld := (d0.keep hSw).lt; have q2 := ((bcellB hSw).1 g2 kb l2).trans q2; have q3 := ((bcellB hSw).1 g3 kb l3).trans q3; have l2 := Nat.lt_of_lt_of_le l2 hSw.size; have l3 := Nat.lt_of_lt_of_le l3 hSw.size; go_simp; with_reducible rfl
      try simp only [Act.put, zzA, zzB, zzC, zzD, zzE, zzF]
      refine wpAnyY_take (i := 4) (v := ?_) rfl (by kernel_rfl) (by kernel_rfl) (by kernel_rfl) (by kernel_rfl) (fun _ _ _ h => h) (Or.inl ⟨by kernel_rfl, ?_⟩) hS ?_
      rotate_left
      · intro w' hSw; go_simp; with_reducible rfl
      try simp only [Act.put, zzA, zzB, zzC, zzD, zzE, zzF]
      refine wpAnyY_take (i := 5) (v := ?_) rfl (by kernel_rfl) (by kernel_rfl) (by kernel_rfl) (by kernel_rfl) (fun _ _ _ h => h) (Or.inl ⟨by kernel_rfl, ?_⟩) hS ?_
      rotate_left
      · intro w' hSw; have s2 := (b0.keep hSw).cell 2; have s3 := (b0.keep hSw).cell 3; have ls := (b0.keep hSw).lt; have n1 := (d0.keep hSw).cell 1; have n3 := (d0.keep hSw).cell 3; have ld := (d0.keep hSw).lt; have q2 := ((bcellB hSw).1 g2 kb l2).trans q2; have q3 := ((bcellB hSw).1 g3 kb l3).trans q3; have l2 := Nat.lt_of_lt_of_le l2 hSw.size; have l3 := Nat.lt_of_lt_of_le l3 hSw.size; go_simp; with_reducible rfl
      try simp only [Act.put, zzA, zzB, zzC, zzD, zzE, zzF]
      refine wpAnyY_take (i := 6) (v := ?_) rfl (by kernel_rfl) (by kernel_rfl) (by kernel_rfl) (by kernel_rfl) (fun _ _ _ h => h) (Or.inl ⟨by kernel_rfl, ?_⟩) hS ?_
      rotate_left
      · intro w' hSw; go_simp; with_reducible rfl
      try simp only [Act.put, zzA, zzB, zzC, zzD, zzE, zzF]
      refine wpAnyY_take (i := 7) (v := ?_) rfl (by kernel_rfl) (by kernel_rfl) (by kernel_rfl) (by kernel_rfl) (fun _ _ _ h => h) (Or.inl ⟨by kernel_rfl, ?_⟩) hS ?_
      rotate_left
      · intro w' hSw; go_simp; with_reducible rfl
      try simp only [Act.put, zzA, zzB, zzC, zzD, zzE, zzF]
      refine wpAnyY_take (i := 8) (v := undef) rfl (by kernel_rfl) (by kernel_rfl) (by kernel_rfl) (by kernel_rfl) (fun _ _ _ h => h) (Or.inr ⟨by kernel_rfl, rfl⟩) hS ?_
      try simp only [Act.put, zzA, zzB, zzC, zzD, zzE, zzF]
      refine wpAnyY_take (i := 9) (v := undef) rfl (by kernel_rfl) (by kernel_rfl) (by kernel_rfl) (by kernel_rfl) (fun _ _ _ h => h) (Or.inr ⟨by kernel_rfl, rfl⟩) hS ?_
      try simp only [Act.put, zzA, zzB, zzC, zzD, zzE, zzF]
      refine wpAnyY_take (i := 10) (v := undef) rfl (by kernel_rfl) (by kernel_rfl) (by kernel_rfl) (by kernel_rfl) (fun _ _ _ h => h) (Or.inr ⟨by kernel_rfl, rfl⟩) hS ?_
      try simp only [Act.put, zzA, zzB, zzC, zzD, zzE, zzF]
      refine wpAnyY_take (i := 11) (v := undef) rfl (by kernel_rfl) (by kernel_rfl) (by kernel_rfl) (by kernel_rfl) (fun _ _ _ h => h) (Or.inr ⟨by kernel_rfl, rfl⟩) hS ?_
      try simp only [Act.put, zzA, zzB, zzC, zzD, zzE, zzF]
      refine wpAnyY_take (i := 12) (v := undef) rfl (by kernel_rfl) (by kernel_rfl) (by kernel_rfl) (by kernel_rfl) (fun _ _ _ h => h) (Or.inr ⟨by kernel_rfl, rfl⟩) hS ?_
      try simp only [Act.put, zzA, zzB, zzC, zzD, zzE, zzF]
      refine wpAnyY_take (i := 13) (v := undef) rfl (by kernel_rfl) (by kernel_rfl) (by kernel_rfl) (by kernel_rfl) (fun _ _ _ h => h) (Or.inr ⟨by kernel_rfl, rfl⟩) hS ?_
      try simp only [Act.put, zzA, zzB, zzC, zzD, zzE, zzF]
      refine wpAnyY_take (i := 14) (v := undef) rfl (by kernel_rfl) (by kernel_rfl) (by kernel_rfl) (by kernel_rfl) (fun _ _ _ h => h) (Or.inr ⟨by kernel_rfl, rfl⟩) hS ?_
      try simp only [Act.put, zzA, zzB, zzC, zzD, zzE, zzF]
      refine wpAnyY_take (i := 15) (v := undef) rfl (by kernel_rfl) (by kernel_rfl) (by kernel_rfl) (by kernel_rfl) (fun _ _ _ h => h) (Or.inr ⟨by kernel_rfl, rfl⟩) hS ?_
      try simp only [Act.put, zzA, zzB, zzC, zzD, zzE, zzF]
      refine wpAnyY_take (i := 16) (v := undef) rfl (by kernel_rfl) (by kernel_rfl) (by kernel_rfl) (by kernel_rfl) (fun _ _ _ h => h) (Or.inr ⟨by kernel_rfl, rfl⟩) hS ?_
      try simp only [Act.put, zzA, zzB, zzC, zzD, zzE, zzF]
      refine wpAnyY_oneW (i := 17) (by kernel_rfl) rfl (by kernel_rfl) (by kernel_rfl) (fun K17 hK17 => ?_)
      go_simp
      refine hK17.out _ _ ?_
      clear hK17
      try simp only [Act.put, zzA, zzB, zzC, zzD, zzE, zzF]
      refine wpAnyY_done (by kernel_rfl) ?_ _
      clear hS
      have t4 := HS.out.keep gd
      have b4 := b0.keep gd
      have d4 := d0.keep gd
      have HZ2 := Lib.hid (HZ.out _ _ gd rfl)
      clear HZ q1 q2 q3 z1 z2 z3 l1 l2 l3 s0 s1 s2 s3 ls n1 n2 n3 n4 n7 ld
      have s3 := b4.cell 3
      have ls := b4.lt
      have n3 := d4.cell 3
      have ld := d4.lt
      have q3 := t4.r3.cell hkb
      have z3 := t4.r3.frozen kb
      have l3 := t4.r3.lt
      go_upto_region 23 with fail
      go_upto_region 24 with fail
      have t5 := t4.put3 hkb 1
      have b5 := b4.far (p := ⟨g3, kb, none⟩) (by show PB ≠ g3; have := HSZ.out; have := HPB.out; omega) (.int .i64 1)
      have d5 := d4.far (p := ⟨g3, kb, none⟩) (by show PB + 1 ≠ g3; have := HSZ.out; have := HPB.out; omega) (.int .i64 1)
      clear q3 z3 l3 s3 ls n3 ld
      try change Code.wp _ _ _ _ (WD.setCell ⟨g3, kb, none⟩ (.int .i64 1))
      generalize WD.setCell ⟨g3, kb, none⟩ (.int .i64 1) = W5 at *
      have s1 := b5.cell 1
      have ls := b5.lt
      have n2 := d5.cell 2
      have n3 := d5.cell 3
      have ld := d5.lt
      have q1 := t5.r1.cell hkb
      have z1 := t5.r1.frozen kb
      have l1 := t5.r1.lt
      go_wp2_with fail
      first | exact HZ2.out | (go_ret; exact HZ2.out)
  · by_cases w2 : SE = 0
    · have HZ := Lib.hid (HPP.out W1 s false (by unfold hapR; rw [if_neg (by simp), if_neg (by simp), if_neg (by simp), if_pos (.inl (by show s.se kb = 0; rw [HSE.out]; exact w2))]) HS.out F0)
      clear HPP
      subst w2
      go_enter Tryz.func52, Tryz.ntmps52
      go_upto_region 1 with fail
      change Code.wp _ _ _ _ ((w.alloc (.cells #[.slice a0 N c0, .slice (some ⟨g1, 0, none⟩) B c1, .slice (some ⟨g2, 0, none⟩) B c2, .slice (some ⟨g3, 0, none⟩) B c3] 58)).alloc (.cells #[.int .i64 yid, .int .i64 ytm, .int .i64 5, .int .i64 (kb : Nat), .int .i64 ybd, .int .i64 ym1, .int .i64 ym2, .int .i64 ysl] 54))
      rw [← HW1.out, ← HPB.out]
      go_wp2_with fail
      first | exact HZ.out | (go_ret; exact HZ.out)
    have w2b : (SE == 0) = false := by simpa using w2
    by_cases w3 : ysl = SE
    · have w3b : (ysl == SE) = true := by simpa using w3
      by_cases w4 : WG = 1
      · have HZ := Lib.hid (HPP.out W1 s false (by unfold hapR; rw [if_neg (by simp), if_neg (by simp), if_neg (by simp), if_pos (.inr ⟨by show ysl = s.se kb; rw [HSE.out]; exact w3, by show s.wg kb = 1; rw [HWG.out]; exact w4⟩)]) HS.out F0)
        clear HPP w2 w3
        subst w4
        go_enter Tryz.func52, Tryz.ntmps52
        go_upto_region 1 with fail
        change Code.wp _ _ _ _ ((w.alloc (.cells #[.slice a0 N c0, .slice (some ⟨g1, 0, none⟩) B c1, .slice (some ⟨g2, 0, none⟩) B c2, .slice (some ⟨g3, 0, none⟩) B c3] 58)).alloc (.cells #[.int .i64 yid, .int .i64 ytm, .int .i64 5, .int .i64 (kb : Nat), .int .i64 ybd, .int .i64 ym1, .int .i64 ym2, .int .i64 ysl] 54))
        rw [← HW1.out, ← HPB.out]
        go_wp2_with fail
        first | exact HZ.out | (go_ret; exact HZ.out)
      · have w4b : (WG == 1) = false := by simpa using w4
        have HZ := Lib.hid (fun (W5 : World) (hw : W5 = W1.setCell ⟨g2, kb, none⟩ (.int .i64 ytm)) => HPP.out (W5.setCell ⟨g1, kb, none⟩ (.int .i64 0)) { s with si := up s.si (kb : Nat) ytm, se := up s.se (kb : Nat) 0 } true (by unfold hapR; rw [if_neg (by simp), if_neg (by simp), if_neg (by simp), if_neg (by show ¬ (s.se kb = 0 ∨ ysl = s.se kb ∧ s.wg kb = 1); rw [HSE.out, HWG.out]; exact fun e => e.elim w2 (fun e => w4 e.2)), if_pos (by show ysl = s.se kb; rw [HSE.out]; exact w3)]; rfl) (by rw [hw]; exact ((HS.out.put2 hkb ytm).put1 hkb 0)) (by rw [hw]; exact ((F0.s (p := ⟨g2, kb, none⟩) (.inl (.inr (.inr (.inl rfl)))) _).s (p := ⟨g1, kb, none⟩) (.inl (.inr (.inl rfl))) _)))
        clear HPP w2 w4 w3
        have HZ2 := Lib.hid (HZ.out _ rfl)
        clear HZ
        go_enter Tryz.func52, Tryz.ntmps52
        go_upto_region 1 with fail
        change Code.wp _ _ _ _ ((w.alloc (.cells #[.slice a0 N c0, .slice (some ⟨g1, 0, none⟩) B c1, .slice (some ⟨g2, 0, none⟩) B c2, .slice (some ⟨g3, 0, none⟩) B c3] 58)).alloc (.cells #[.int .i64 yid, .int .i64 ytm, .int .i64 5, .int .i64 (kb : Nat), .int .i64 ybd, .int .i64 ym1, .int .i64 ym2, .int .i64 ysl] 54))
        rw [← HW1.out, ← HPB.out]
        go_upto_region 24 with fail
        have t5 := HS.out.put2 hkb ytm
        have b5 := b0.far (p := ⟨g2, kb, none⟩) (by show PB ≠ g2; have := HSZ.out; have := HPB.out; omega) (.int .i64 ytm)
        have d5 := d0.far (p := ⟨g2, kb, none⟩) (by show PB + 1 ≠ g2; have := HSZ.out; have := HPB.out; omega) (.int .i64 ytm)
        clear q1 q2 q3 z1 z2 z3 l1 l2 l3 s0 s1 s2 s3 ls n1 n2 n3 n4 n7 ld
        try change Code.wp _ _ _ _ (W1.setCell ⟨g2, kb, none⟩ (.int .i64 ytm))
        generalize W1.setCell ⟨g2, kb, none⟩ (.int .i64 ytm) = W5 at *
        have s1 := b5.cell 1
        have ls := b5.lt
        have n2 := d5.cell 2
        have n3 := d5.cell 3
        have ld := d5.lt
        have q1 := t5.r1.cell hkb
        have z1 := t5.r1.frozen kb
        have l1 := t5.r1.lt
        go_wp2_with fail
        first | exact HZ2.out | (go_ret; exact HZ2.out)
    have w3b : (ysl == SE) = false := by simpa using w3
    by_cases w5 : WG = 0
    · by_cases w6 : SI = ytm
      · have HZ := Lib.hid (fun (W : World) (hg : G W1 W) => HPP.out W s false (by unfold hapR; rw [if_neg (by simp), if_neg (by simp), if_neg (by simp), if_neg (by show ¬ (s.se kb = 0 ∨ ysl = s.se kb ∧ s.wg kb = 1); rw [HSE.out, HWG.out]; exact fun e => e.elim w2 (fun e => w3 e.1)), if_neg (by show ¬ ysl = s.se kb; rw [HSE.out]; exact w3), if_pos ⟨by show s.wg kb = 0; rw [HWG.out]; exact w5, by show s.si kb = ytm; rw [HSI.out]; exact w6⟩]) (HS.out.keep hg) (F0.g hg))
        clear HPP w2 w3
        have w6b : (SI == ytm) = true := by simpa using w6
        clear w6
        subst w5
        go_enter Tryz.func52, Tryz.ntmps52
        go_upto_region 1 with fail
        change Code.wp _ _ _ _ ((w.alloc (.cells #[.slice a0 N c0, .slice (some ⟨g1, 0, none⟩) B c1, .slice (some ⟨g2, 0, none⟩) B c2, .slice (some ⟨g3, 0, none⟩) B c3] 58)).alloc (.cells #[.int .i64 yid, .int .i64 ytm, .int .i64 5, .int .i64 (kb : Nat), .int .i64 ybd, .int .i64 ym1, .int .i64 ym2, .int .i64 ysl] 54))
        rw [← HW1.out, ← HPB.out]
        go_upto_region 21 with fail
        refine wp_region_Y (S := fun W' => G W1 W') 17 18 rfl (by kernel_rfl) ((G.rf W1).d) (fun hS => ?_)
        have gd : G W1 W1.drew := (G.rf W1).d
        generalize W1.drew = WD at *
        refine wpAnyY_take (i := 0) (v := ?_) rfl (by kernel_rfl) (by kernel_rfl) (by kernel_rfl) (by kernel_rfl) (fun _ _ _ h => h) (Or.inl ⟨by kernel_rfl, ?_⟩) hS ?_
        rotate_left
        · intro w' hSw; go_simp; with_reducible rfl
        try simp only [Act.put, zzA, zzB, zzC, zzD, zzE, zzF]
        refine wpAnyY_take (i := 1) (v := ?_) rfl (by kernel_rfl) (by kernel_rfl) (by kernel_rfl) (by kernel_rfl) (fun _ _ _ h => h) (Or.inl ⟨by kernel_rfl, ?_⟩) hS ?_
        rotate_left
        · intro w' hSw; have s2 := (b0.keep hSw).cell 2; have s3 := (b0.keep hSw).cell 3; have ls := (b0.keep hSw).lt; have n1 := (d0.keep hSw).cell 1; have n3 := (d0.keep hSw).cell 3; have ld := (d0.keep hSw).lt; have q2 := ((bcellB hSw).1 g2 kb l2).trans q2; have q3 := ((bcellB hSw).1 g3 kb l3).trans q3; have l2 := Nat.lt_of_lt_of_le l2 hSw.size; have l3 := Nat.lt_of_lt_of_le l3 hSw.size; go_simp; with_reducible rfl
        try simp only [Act.put, zzA, zzB, zzC, zzD, zzE, zzF]
        refine wpAnyY_take (i := 2) (v := ?_) rfl (by kernel_rfl) (by kernel_rfl) (by kernel_rfl) (by kernel_rfl) (fun _ _ _ h => h) (Or.inl ⟨by kernel_rfl, ?_⟩) hS ?_
        rotate_left
        · intro w' hSw; go_simp; with_reducible rfl
        try simp only [Act.put, zzA, zzB, zzC, zzD, zzE, zzF]
        refine wpAnyY_take (i := 3) (v := ?_) rfl (by kernel_rfl) (by kernel_rfl) (by kernel_rfl) (by kernel_rfl) (fun _ _ _ h => h) (Or.inl ⟨by kernel_rfl, ?_⟩) hS ?_
        rotate_left
        · intro w' hSw; have s2 := (b0.keep hSw).cell 2; have s3 := (b0.keep hSw).cell 3; have ls := (b0.keep hSw).lt; have n1 := (d0.keep hSw).cell 1; have n3 := (d0.keep hSw).cell 3; have ld := (d0.keep hSw).lt; have q2 := ((bcellB hSw).1 g2 kb l2).trans q2; have q3 := ((bcellB hSw).1 g3 kb l3).trans q3; have l2 := Nat.lt_of_lt_of_le l2 hSw.size; have l3 := Nat.lt_of_lt_of_le l3 hSw.size; go_simp; with_reducible rfl
        try simp only [Act.put, zzA, zzB, zzC, zzD, zzE, zzF]
        refine wpAnyY_take (i := 4) (v := ?_) rfl (by kernel_rfl) (by kernel_rfl) (by kernel_rfl) (by kernel_rfl) (fun _ _ _ h => h) (Or.inl ⟨by kernel_rfl, ?_⟩) hS ?_
        rotate_left
        · intro w' hSw; go_simp; with_reducible rfl
        try simp only [Act.put, zzA, zzB, zzC, zzD, zzE, zzF]
        refine wpAnyY_take (i := 5) (v := ?_) rfl (by kernel_rfl) (by kernel_rfl) (by kernel_rfl) (by kernel_rfl) (fun _ _ _ h => h) (Or.inl ⟨by kernel_rfl, ?_⟩) hS ?_
        rotate_left
        · intro w' hSw; have s2 := (b0.keep hSw).cell 2; have s3 := (b0.keep hSw).cell 3; have ls := (b0.keep hSw).lt; have n1 := (d0.keep hSw).cell 1; have n3 := (d0.keep hSw).cell 3; have ld := (d0.keep hSw).lt; have q2 := ((bcellB hSw).1 g2 kb l2).trans q2; have q3 := ((bcellB hSw).1 g3 kb l3).trans q3; have l2 := Nat.lt_of_lt_of_le l2 hSw.size; have l3 := Nat.lt_of_lt_of_le l3 hSw.size; go_simp; with_reducible rfl
        try simp only [Act.put, zzA, zzB, zzC, zzD, zzE, zzF]
        refine wpAnyY_take (i := 6) (v := ?_) rfl (by kernel_rfl) (by kernel_rfl) (by kernel_rfl) (by kernel_rfl) (fun _ _ _ h => h) (Or.inl ⟨by kernel_rfl, ?_⟩) hS ?_
        rotate_left
        · intro w' hSw; go_simp; with_reducible rfl
        try simp only [Act.put, zzA, zzB, zzC, zzD, zzE, zzF]
        refine wpAnyY_take (i := 7) (v := ?_) rfl (by kernel_rfl) (by kernel_rfl) (by kernel_rfl) (by kernel_rfl) (fun _ _ _ h => h) (Or.inl ⟨by kernel_rfl, ?_⟩) hS ?_
        rotate_left
        · intro w' hSw; go_simp; with_reducible rfl
        try simp only [Act.put, zzA, zzB, zzC, zzD, zzE, zzF]
        refine wpAnyY_take (i := 8) (v := ?_) rfl (by kernel_rfl) (by kernel_rfl) (by kernel_rfl) (by kernel_rfl) (fun _ _ _ h => h) (Or.inl ⟨by kernel_rfl, ?_⟩) hS ?_
        rotate_left
        · intro w' hSw; go_simp; with_reducible rfl
        try simp only [Act.put, zzA, zzB, zzC, zzD, zzE, zzF]
        refine wpAnyY_take (i := 9) (v := ?_) rfl (by kernel_rfl) (by kernel_rfl) (by kernel_rfl) (by kernel_rfl) (fun _ _ _ h => h) (Or.inl ⟨by kernel_rfl, ?_⟩) hS ?_
        rotate_left
        · intro w' hSw; have s2 := (b0.keep hSw).cell 2; have s3 := (b0.keep hSw).cell 3; have ls := (b0.keep hSw).lt; have n1 := (d0.keep hSw).cell 1; have n3 := (d0.keep hSw).cell 3; have ld := (d0.keep hSw).lt; have q2 := ((bcellB hSw).1 g2 kb l2).trans q2; have q3 := ((bcellB hSw).1 g3 kb l3).trans q3; have l2 := Nat.lt_of_lt_of_le l2 hSw.size; have l3 := Nat.lt_of_lt_of_le l3 hSw.size; go_simp; with_reducible rfl
        try simp only [Act.put, zzA, zzB, zzC, zzD, zzE, zzF]
        refine wpAnyY_take (i := 10) (v := ?_) rfl (by kernel_rfl) (by kernel_rfl) (by kernel_rfl) (by kernel_rfl) (fun _ _ _ h => h) (Or.inl ⟨by kernel_rfl, ?_⟩) hS ?_
        rotate_left
        · intro w' hSw; go_simp; with_reducible rfl
        try simp only [Act.put, zzA, zzB, zzC, zzD, zzE, zzF]
        refine wpAnyY_take (i := 11) (v := ?_) rfl (by kernel_rfl) (by kernel_rfl) (by kernel_rfl) (by kernel_rfl) (fun _ _ _ h => h) (Or.inl ⟨by kernel_rfl, ?_⟩) hS ?_
        rotate_left
        · intro w' hSw; have s2 := (b0.keep hSw).cell 2; have s3 := (b0.keep hSw).cell 3; have ls := (b0.keep hSw).lt; have n1 := (d0.keep hSw).cell 1; have n3 := (d0.keep hSw).cell 3; have ld := (d0.keep hSw).lt; have q2 := ((bcellB hSw).1 g2 kb l2).trans q2; have q3 := ((bcellB hSw).1 g3 kb l3).trans q3; have l2 := Nat.lt_of_lt_of_le l2 hSw.size; have l3 := Nat.lt_of_lt_of_le l3 hSw.size; go_simp; with_reducible rfl
        try simp only [Act.put, zzA, zzB, zzC, zzD, zzE, zzF]
        refine wpAnyY_take (i := 12) (v := ?_) rfl (by kernel_rfl) (by kernel_rfl) (by kernel_rfl) (by kernel_rfl) (fun _ _ _ h => h) (Or.inl ⟨by kernel_rfl, ?_⟩) hS ?_
        rotate_left
        · intro w' hSw; go_simp; with_reducible rfl
        try simp only [Act.put, zzA, zzB, zzC, zzD, zzE, zzF]
        refine wpAnyY_take (i := 13) (v := ?_) rfl (by kernel_rfl) (by kernel_rfl) (by kernel_rfl) (by kernel_rfl) (fun _ _ _ h => h) (Or.inl ⟨by kernel_rfl, ?_⟩) hS ?_
        rotate_left
        · intro w' hSw; have s2 := (b0.keep hSw).cell 2; have s3 := (b0.keep hSw).cell 3; have ls := (b0.keep hSw).lt; have n1 := (d0.keep hSw).cell 1; have n3 := (d0.keep hSw).cell 3; have ld := (d0.keep hSw).lt; have q2 := ((bcellB hSw).1 g2 kb l2).trans q2; have q3 := ((bcellB hSw).1 g3 kb l3).trans q3; have l2 := Nat.lt_of_lt_of_le l2 hSw.size; have l3 := Nat.lt_of_lt_of_le l3 hSw.size; go_simp; with_reducible rfl
        try simp only [Act.put, zzA, zzB, zzC, zzD, zzE, zzF]
        refine wpAnyY_take (i := 14) (v := ?_) rfl (by kernel_rfl) (by kernel_rfl) (by kernel_rfl) (by kernel_rfl) (fun _ _ _ h => h) (Or.inl ⟨by kernel_rfl, ?_⟩) hS ?_
        rotate_left
        · intro w' hSw; go_simp; with_reducible rfl
        try simp only [Act.put, zzA, zzB, zzC, zzD, zzE, zzF]
        refine wpAnyY_take (i := 15) (v := ?_) rfl (by kernel_rfl) (by kernel_rfl) (by kernel_rfl) (by kernel_rfl) (fun _ _ _ h => h) (Or.inl ⟨by kernel_rfl, ?_⟩) hS ?_
        rotate_left
        · intro w' hSw; have s2 := (b0.keep hSw).cell 2; have s3 := (b0.keep hSw).cell 3; have ls := (b0.keep hSw).lt; have n1 := (d0.keep hSw).cell 1; have n3 := (d0.keep hSw).cell 3; have ld := (d0.keep hSw).lt; have q2 := ((bcellB hSw).1 g2 kb l2).trans q2; have q3 := ((bcellB hSw).1 g3 kb l3).trans q3; have l2 := Nat.lt_of_lt_of_le l2 hSw.size; have l3 := Nat.lt_of_lt_of_le l3 hSw.size; go_simp; with_reducible rfl
        try simp only [Act.put, zzA, zzB, zzC, zzD, zzE, zzF]
        refine wpAnyY_take (i := 16) (v := ?_) rfl (by kernel_rfl) (by kernel_rfl) (by kernel_rfl) (by kernel_rfl) (fun _ _ _ h => h) (Or.inl ⟨by kernel_rfl, ?_⟩) hS ?_
        rotate_left
        · intro w' hSw; go_simp; with_reducible rfl
        try simp only [Act.put, zzA, zzB, zzC, zzD, zzE, zzF]
        refine wpAnyY_oneW (i := 17) (by kernel_rfl) rfl (by kernel_rfl) (by kernel_rfl) (fun K17 hK17 => ?_)
        go_simp
        refine hK17.out _ _ ?_
        clear hK17
        try simp only [Act.put, zzA, zzB, zzC, zzD, zzE, zzF]
        refine wpAnyY_done (by kernel_rfl) ?_ _
        clear hS
        go_wp2_with fail
        first | exact HZ.out _ gd | (go_ret; exact HZ.out _ gd)
      · have w6b : (SI == ytm) = false := by simpa using w6
        have HZ := Lib.hid (fun (W W5 : World) (hg : G W1 W) (hw : W5 = W.setCell ⟨g3, kb, none⟩ (.int .i64 1)) => HPP.out (W5.setCell ⟨g1, kb, none⟩ (.int .i64 0)) { s with wg := up s.wg (kb : Nat) 1, se := up s.se (kb : Nat) 0 } true (by unfold hapR; rw [if_neg (by simp), if_neg (by simp), if_neg (by simp), if_neg (by show ¬ (s.se kb = 0 ∨ ysl = s.se kb ∧ s.wg kb = 1); rw [HSE.out, HWG.out]; exact fun e => e.elim w2 (fun e => w3 e.1)), if_neg (by show ¬ ysl = s.se kb; rw [HSE.out]; exact w3), if_neg (by show ¬ (s.wg kb = 0 ∧ s.si kb = ytm); rw [HWG.out, HSI.out]; exact fun e => w6 e.2)]; rfl) (by rw [hw]; exact (((HS.out.keep hg).put3 hkb 1).put1 hkb 0)) (by rw [hw]; exact (((F0.g hg).s (p := ⟨g3, kb, none⟩) (.inl (.inr (.inr (.inr rfl)))) _).s (p := ⟨g1, kb, none⟩) (.inl (.inr (.inl rfl))) _)))
        clear HPP w2 w3 w6
        subst w5
        go_enter Tryz.func52, Tryz.ntmps52
        go_upto_region 1 with fail
        change Code.wp _ _ _ _ ((w.alloc (.cells #[.slice a0 N c0, .slice (some ⟨g1, 0, none⟩) B c1, .slice (some ⟨g2, 0, none⟩) B c2, .slice (some ⟨g3, 0, none⟩) B c3] 58)).alloc (.cells #[.int .i64 yid, .int .i64 ytm, .int .i64 5, .int .i64 (kb : Nat), .int .i64 ybd, .int .i64 ym1, .int .i64 ym2, .int .i64 ysl] 54))
        rw [← HW1.out, ← HPB.out]
        go_upto_region 21 with fail
        refine wp_region_Y (S := fun W' => G W1 W') 17 18 rfl (by kernel_rfl) ((G.rf W1).d) (fun hS => ?_)
        have gd : G W1 W1.drew := (G.rf W1).d
        generalize W1.drew = WD at *
        refine wpAnyY_take (i := 0) (v := ?_) rfl (by kernel_rfl) (by kernel_rfl) (by kernel_rfl) (by kernel_rfl) (fun _ _ _ h => h) (Or.inl ⟨by kernel_rfl, ?_⟩) hS ?_
        rotate_left
        · intro w' hSw; go_simp; with_reducible rfl
        try simp only [Act.put, zzA, zzB, zzC, zzD, zzE, zzF]
        refine wpAnyY_take (i := 1) (v := ?_) rfl (by kernel_rfl) (by kernel_rfl) (by kernel_rfl) (by kernel_rfl) (fun _ _ _ h => h) (Or.inl ⟨by kernel_rfl, ?_⟩) hS ?_
        rotate_left
        · intro w' hSw; have s2 := (b0.keep hSw).cell 2; have s3 := (b0.keep hSw).cell 3; have ls := (b0.keep hSw).lt; have n1 := (d0.keep hSw).cell 1; have n3 := (d0.keep hSw).cell 3; have ld := (d0.keep hSw).lt; have q2 := ((bcellB hSw).1 g2 kb l2).trans q2; have q3 := ((bcellB hSw).1 g3 kb l3).trans q3; have l2 := Nat.lt_of_lt_of_le l2 hSw.size; have l3 := Nat.lt_of_lt_of_le l3 hSw.size; go_simp; with_reducible rfl
        try simp only [Act.put, zzA, zzB, zzC, zzD, zzE, zzF]
        refine wpAnyY_take (i := 2) (v := ?_) rfl (by kernel_rfl) (by kernel_rfl) (by kernel_rfl) (by kernel_rfl) (fun _ _ _ h => h) (Or.inl ⟨by kernel_rfl, ?_⟩) hS ?_
        rotate_left
        · intro w' hSw; go_simp; with_reducible rfl
        try simp only [Act.put, zzA, zzB, zzC, zzD, zzE, zzF]
        refine wpAnyY_take (i := 3) (v := ?_) rfl (by kernel_rfl) (by kernel_rfl) (by kernel_rfl) (by kernel_rfl) (fun _ _ _ h => h) (Or.inl ⟨by kernel_rfl, ?_⟩) hS ?_
        rotate_left
        · intro w' hSw; have s2 := (b0.keep hSw).cell 2; have s3 := (b0.keep hSw).cell 3; have ls := (b0.keep hSw).lt; have n1 := (d0.keep hSw).cell 1; have n3 := (d0.keep hSw).cell 3; have ld := (d0.keep hSw).lt; have q2 := ((bcellB hSw).1 g2 kb l2).trans q2; have q3 := ((bcellB hSw).1 g3 kb l3).trans q3; have l2 := Nat.lt_of_lt_of_le l2 hSw.size; have l3 := Nat.lt_of_lt_of_le l3 hSw.size; go_simp; with_reducible rfl
        try simp only [Act.put, zzA, zzB, zzC, zzD, zzE, zzF]
        refine wpAnyY_take (i := 4) (v := ?_) rfl (by kernel_rfl) (by kernel_rfl) (by kernel_rfl) (by kernel_rfl) (fun _ _ _ h => h) (Or.inl ⟨by kernel_rfl, ?_⟩) hS ?_
        rotate_left
        · intro w' hSw; go_simp; with_reducible rfl
        try simp only [Act.put, zzA, zzB, zzC, zzD, zzE, zzF]
        refine wpAnyY_take (i := 5) (v := ?_) rfl (by kernel_rfl) (by kernel_rfl) (by kernel_rfl) (by kernel_rfl) (fun _ _ _ h => h) (Or.inl ⟨by kernel_rfl, ?_⟩) hS ?_
        rotate_left
        · intro w' hSw; have s2 := (b0.keep hSw).cell 2; have s3 := (b0.keep hSw).cell 3; have ls := (b0.keep hSw).lt; have n1 := (d0.keep hSw).cell 1; have n3 := (d0.keep hSw).cell 3; have ld := (d0.keep hSw).lt; have q2 := ((bcellB hSw).1 g2 kb l2).trans q2; have q3 := ((bcellB hSw).1 g3 kb l3).trans q3; have l2 := Nat.lt_of_lt_of_le l2 hSw.size; have l3 := Nat.lt_of_lt_of_le l3 hSw.size; go_simp; with_reducible rfl
        try simp only [Act.put, zzA, zzB, zzC, zzD, zzE, zzF]
        refine wpAnyY_take (i := 6) (v := ?_) rfl (by kernel_rfl) (by kernel_rfl) (by kernel_rfl) (by kernel_rfl) (fun _ _ _ h => h) (Or.inl ⟨by kernel_rfl, ?_⟩) hS ?_
        rotate_left
        · intro w' hSw; go_simp; with_reducible rfl
        try simp only [Act.put, zzA, zzB, zzC, zzD, zzE, zzF]
        refine wpAnyY_take (i := 7) (v := ?_) rfl (by kernel_rfl) (by kernel_rfl) (by kernel_rfl) (by kernel_rfl) (fun _ _ _ h => h) (Or.inl ⟨by kernel_rfl, ?_⟩) hS ?_
        rotate_left
        · intro w' hSw; go_simp; with_reducible rfl
        try simp only [Act.put, zzA, zzB, zzC, zzD, zzE, zzF]
        refine wpAnyY_take (i := 8) (v := ?_) rfl (by kernel_rfl) (by kernel_rfl) (by kernel_rfl) (by kernel_rfl) (fun _ _ _ h => h) (Or.inl ⟨by kernel_rfl, ?_⟩) hS ?_
        rotate_left
        · intro w' hSw; go_simp; with_reducible rfl
        try simp only [Act.put, zzA, zzB, zzC, zzD, zzE, zzF]
        refine wpAnyY_take (i := 9) (v := ?_) rfl (by kernel_rfl) (by kernel_rfl) (by kernel_rfl) (by kernel_rfl) (fun _ _ _ h => h) (Or.inl ⟨by kernel_rfl, ?_⟩) hS ?_
        rotate_left
        · intro w' hSw; have s2 := (b0.keep hSw).cell 2; have s3 := (b0.keep hSw).cell 3; have ls := (b0.keep hSw).lt; have n1 := (d0.keep hSw).cell 1; have n3 := (d0.keep hSw).cell 3; have ld := (d0.keep hSw).lt; have q2 := ((bcellB hSw).1 g2 kb l2).trans q2; have q3 := ((bcellB hSw).1 g3 kb l3).trans q3; have l2 := Nat.lt_of_lt_of_le l2 hSw.size; have l3 := Nat.lt_of_lt_of_le l3 hSw.size; go_simp; with_reducible rfl
        try simp only [Act.put, zzA, zzB, zzC, zzD, zzE, zzF]
        refine wpAnyY_take (i := 10) (v := ?_) rfl (by kernel_rfl) (by kernel_rfl) (by kernel_rfl) (by kernel_rfl) (fun _ _ _ h => h) (Or.inl ⟨by kernel_rfl, ?_⟩) hS ?_
        rotate_left
        · intro w' hSw; go_simp; with_reducible rfl
        try simp only [Act.put, zzA, zzB, zzC, zzD, zzE, zzF]
        refine wpAnyY_take (i := 11) (v := ?_) rfl (by kernel_rfl) (by kernel_rfl) (by kernel_rfl) (by kernel_rfl) (fun _ _ _ h => h) (Or.inl ⟨by kernel_rfl, ?_⟩) hS ?_
        rotate_left
        · intro w' hSw; have s2 := (b0.keep hSw).cell 2; have s3 := (b0.keep hSw).cell 3; have ls := (b0.keep hSw).lt; have n1 := (d0.keep hSw).cell 1; have n3 := (d0.keep hSw).cell 3; have ld := (d0.keep hSw).lt; have q2 := ((bcellB hSw).1 g2 kb l2).trans q2; have q3 := ((bcellB hSw).1 g3 kb l3).trans q3; have l2 := Nat.lt_of_lt_of_le l2 hSw.size; have l3 := Nat.lt_of_lt_of_le l3 hSw.size; go_simp; with_reducible rfl
        try simp only [Act.put, zzA, zzB, zzC, zzD, zzE, zzF]
        refine wpAnyY_take (i := 12) (v := ?_) rfl (by kernel_rfl) (by kernel_rfl) (by kernel_rfl) (by kernel_rfl) (fun _ _ _ h => h) (Or.inl ⟨by kernel_rfl, ?_⟩) hS ?_
        rotate_left
        · intro w' hSw; go_simp; with_reducible rfl
        try simp only [Act.put, zzA, zzB, zzC, zzD, zzE, zzF]
        refine wpAnyY_take (i := 13) (v := ?_) rfl (by kernel_rfl) (by kernel_rfl) (by kernel_rfl) (by kernel_rfl) (fun _ _ _ h => h) (Or.inl ⟨by kernel_rfl, ?_⟩) hS ?_
        rotate_left
        · intro w' hSw; have s2 := (b0.keep hSw).cell 2; have s3 := (b0.keep hSw).cell 3; have ls := (b0.keep hSw).lt; have n1 := (d0.keep hSw).cell 1; have n3 := (d0.keep hSw).cell 3; have ld := (d0.keep hSw).lt; have q2 := ((bcellB hSw).1 g2 kb l2).trans q2; have q3 := ((bcellB hSw).1 g3 kb l3).trans q3; have l2 := Nat.lt_of_lt_of_le l2 hSw.size; have l3 := Nat.lt_of_lt_of_le l3 hSw.size; go_simp; with_reducible rfl
        try simp only [Act.put, zzA, zzB, zzC, zzD, zzE, zzF]
        refine wpAnyY_take (i := 14) (v := ?_) rfl (by kernel_rfl) (by kernel_rfl) (by kernel_rfl) (by kernel_rfl) (fun _ _ _ h => h) (Or.inl ⟨by kernel_rfl, ?_⟩) hS ?_
        rotate_left
        · intro w' hSw; go_simp; with_reducible rfl
        try simp only [Act.put, zzA, zzB, zzC, zzD, zzE, zzF]
        refine wpAnyY_take (i := 15) (v := ?_) rfl (by kernel_rfl) (by kernel_rfl) (by kernel_rfl) (by kernel_rfl) (fun _ _ _ h => h) (Or.inl ⟨by kernel_rfl, ?_⟩) hS ?_
        rotate_left
        · intro w' hSw; have s2 := (b0.keep hSw).cell 2; have s3 := (b0.keep hSw).cell 3; have ls := (b0.keep hSw).lt; have n1 := (d0.keep hSw).cell 1; have n3 := (d0.keep hSw).cell 3; have ld := (d0.keep hSw).lt; have q2 := ((bcellB hSw).1 g2 kb l2).trans q2; have q3 := ((bcellB hSw).1 g3 kb l3).trans q3; have l2 := Nat.lt_of_lt_of_le l2 hSw.size; have l3 := Nat.lt_of_lt_of_le l3 hSw.size; go_simp; with_reducible rfl
        try simp only [Act.put, zzA, zzB, zzC, zzD, zzE, zzF]
        refine wpAnyY_take (i := 16) (v := ?_) rfl (by kernel_rfl) (by kernel_rfl) (by kernel_rfl) (by kernel_rfl) (fun _ _ _ h => h) (Or.inl ⟨by kernel_rfl, ?_⟩) hS ?_
        rotate_left
        · intro w' hSw; go_simp; with_reducible rfl
        try simp only [Act.put, zzA, zzB, zzC, zzD, zzE, zzF]
        refine wpAnyY_oneW (i := 17) (by kernel_rfl) rfl (by kernel_rfl) (by kernel_rfl) (fun K17 hK17 => ?_)
        go_simp
        refine hK17.out _ _ ?_
        clear hK17
        try simp only [Act.put, zzA, zzB, zzC, zzD, zzE, zzF]
        refine wpAnyY_done (by kernel_rfl) ?_ _
        clear hS
        have t4 := HS.out.keep gd
        have b4 := b0.keep gd
        have d4 := d0.keep gd
        have HZ2 := Lib.hid (HZ.out _ _ gd rfl)
        clear HZ q1 q2 q3 z1 z2 z3 l1 l2 l3 s0 s1 s2 s3 ls n1 n2 n3 n4 n7 ld
        have s3 := b4.cell 3
        have ls := b4.lt
        have n3 := d4.cell 3
        have ld := d4.lt
        have q3 := t4.r3.cell hkb
        have z3 := t4.r3.frozen kb
        have l3 := t4.r3.lt
        go_upto_region 23 with fail
        go_upto_region 24 with fail
        have t5 := t4.put3 hkb 1
        have b5 := b4.far (p := ⟨g3, kb, none⟩) (by show PB ≠ g3; have := HSZ.out; have := HPB.out; omega) (.int .i64 1)
        have d5 := d4.far (p := ⟨g3, kb, none⟩) (by show PB + 1 ≠ g3; have := HSZ.out; have := HPB.out; omega) (.int .i64 1)
        clear q3 z3 l3 s3 ls n3 ld
        try change Code.wp _ _ _ _ (WD.setCell ⟨g3, kb, none⟩ (.int .i64 1))
        generalize WD.setCell ⟨g3, kb, none⟩ (.int .i64 1) = W5 at *
        have s1 := b5.cell 1
        have ls := b5.lt
        have n2 := d5.cell 2
        have n3 := d5.cell 3
        have ld := d5.lt
        have q1 := t5.r1.cell hkb
        have z1 := t5.r1.frozen kb
        have l1 := t5.r1.lt
        go_wp2_with fail
        first | exact HZ2.out | (go_ret; exact HZ2.out)
    · have w5b : (WG == 0) = false := by simpa using w5
      have HZ := Lib.hid (fun (W W5 : World) (hg : G W1 W) (hw : W5 = W.setCell ⟨g3, kb, none⟩ (.int .i64 1)) => HPP.out (W5.setCell ⟨g1, kb, none⟩ (.int .i64 0)) { s with wg := up s.wg (kb : Nat) 1, se := up s.se (kb : Nat) 0 } true (by unfold hapR; rw [if_neg (by simp), if_neg (by simp), if_neg (by simp), if_neg (by show ¬ (s.se kb = 0 ∨ ysl = s.se kb ∧ s.wg kb = 1); rw [HSE.out, HWG.out]; exact fun e => e.elim w2 (fun e => w3 e.1)), if_neg (by show ¬ ysl = s.se kb; rw [HSE.out]; exact w3), if_neg (by show ¬ (s.wg kb = 0 ∧ s.si kb = ytm); rw [HWG.out, HSI.out]; exact fun e => w5 e.1)]; rfl) (by rw [hw]; exact (((HS.out.keep hg).put3 hkb 1).put1 hkb 0)) (by rw [hw]; exact (((F0.g hg).s (p := ⟨g3, kb, none⟩) (.inl (.inr (.inr (.inr rfl)))) _).s (p := ⟨g1, kb, none⟩) (.inl (.inr (.inl rfl))) _)))
      clear HPP w2 w3 w5
      go_enter Tryz.func52, Tryz.ntmps52
      go_upto_region 1 with fail
      change Code.wp _ _ _ _ ((w.alloc (.cells #[.slice a0 N c0, .slice (some ⟨g1, 0, none⟩) B c1, .slice (some ⟨g2, 0, none⟩) B c2, .slice (some ⟨g3, 0, none⟩) B c3] 58)).alloc (.cells #[.int .i64 yid, .int .i64 ytm, .int .i64 5, .int .i64 (kb : Nat), .int .i64 ybd, .int .i64 ym1, .int .i64 ym2, .int .i64 ysl] 54))
      rw [← HW1.out, ← HPB.out]
      go_upto_region 21 with fail
      refine wp_region_Y (S := fun W' => G W1 W') 17 18 rfl (by kernel_rfl) ((G.rf W1).d) (fun hS => ?_)
      have gd : G W1 W1.drew := (G.rf W1).d
      generalize W1.drew = WD at *
      refine wpAnyY_take (i := 0) (v := ?_) rfl (by kernel_rfl) (by kernel_rfl) (by kernel_rfl) (by kernel_rfl) (fun _ _ _ h => h) (Or.inl ⟨by kernel_rfl, ?_⟩) hS ?_
      rotate_left
      · intro w' hSw; go_simp; with_reducible rfl
      try simp only [Act.put, zzA, zzB, zzC, zzD, zzE, zzF]
      refine wpAnyY_take (i := 1) (v := ?_) rfl (by kernel_rfl) (by kernel_rfl) (by kernel_rfl) (by kernel_rfl) (fun _ _ _ h => h) (Or.inl ⟨by kernel_rfl, ?_⟩) hS ?_
      rotate_left
      · intro w' hSw; have s2 := (b0.keep hSw).cell 2; have s3 := (b0.keep hSw).cell 3; have ls := (b0.keep hSw).lt; have n1 := (d0.keep hSw).cell 1; have n3 := (d0.keep hSw).cell 3; have ld := (d0.keep hSw).lt; have q2 := ((bcellB hSw).1 g2 kb l2).trans q2; have q3 := ((bcellB hSw).1 g3 kb l3).trans q3; have l2 := Nat.lt_of_lt_of_le l2 hSw.size; have l3 := Nat.lt_of_lt_of_le l3 hSw.size; go_simp; with_reducible rfl
      try simp only [Act.put, zzA, zzB, zzC, zzD, zzE, zzF]
      refine wpAnyY_take (i := 2) (v := ?_) rfl (by kernel_rfl) (by kernel_rfl) (by kernel_rfl) (by kernel_rfl) (fun _ _ _ h => h) (Or.inl ⟨by kernel_rfl, ?_⟩) hS ?_
      rotate_left
      · intro w' hSw; go_simp; with_reducible rfl
      try simp only [Act.put, zzA, zzB, zzC, zzD, zzE, zzF]
      refine wpAnyY_take (i := 3) (v := ?_) rfl (by kernel_rfl) (by kernel_rfl) (by kernel_rfl) (by kernel_rfl) (fun _ _ _ h => h) (Or.inl ⟨by kernel_rfl, ?_⟩) hS ?_
      rotate_left
      · intro w' hSw; have s2 := (b0.keep hSw).cell 2; have s3 := (b0.keep hSw).cell 3; have ls := (b0.keep hSw).lt; have n1 := (d0.keep hSw).cell 1; have n3 := (d0.keep hSw).cell 3; have ld := (d0.keep hSw).lt; have q2 := ((bcellB hSw).1 g2 kb l2).trans q2; have q3 := ((bcellB hSw).1 g3 kb l3).trans q3; have l2 := Nat.lt_of_lt_of_le l2 hSw.size; have l3 := Nat.lt_of_lt_of_le l3 hSw.size; go_simp; with_reducible rfl
      try simp only [Act.put, zzA, zzB, zzC, zzD, zzE, zzF]
      refine wpAnyY_take (i := 4) (v := ?_) rfl (by kernel_rfl) (by kernel_rfl) (by kernel_rfl) (by kernel_rfl) (fun _ _ _ h => h) (Or.inl ⟨by kernel_rfl, ?_⟩) hS ?_
      rotate_left
      · intro w' hSw; go_simp; with_reducible rfl
      try simp only [Act.put, zzA, zzB, zzC, zzD, zzE, zzF]
      refine wpAnyY_take (i := 5) (v := ?_) rfl (by kernel_rfl) (by kernel_rfl) (by kernel_rfl) (by kernel_rfl) (fun _ _ _ h => h) (Or.inl ⟨by kernel_rfl, ?_⟩) hS ?_
      rotate_left
      · intro w' hSw; have s2 := (b0.keep hSw).cell 2; have s3 := (b0.keep hSw).cell 3; have ls := (b0.keep hSw).lt; have n1 := (d0.keep hSw).cell 1; have n3 := (d0.keep hSw).cell 3; have ld := (d0.keep hSw).lt; have q2 := ((bcellB hSw).1 g2 kb l2).trans q2; have q3 := ((bcellB hSw).1 g3 kb l3).trans q3; have l2 := Nat.lt_of_lt_of_le l2 hSw.size; have l3 := Nat.lt_of_lt_of_le l3 hSw.size; go_simp; with_reducible rfl
      try simp only [Act.put, zzA, zzB, zzC, zzD, zzE, zzF]
      refine wpAnyY_take (i := 6) (v := ?_) rfl (by kernel_rfl) (by kernel_rfl) (by kernel_rfl) (by kernel_rfl) (fun _ _ _ h => h) (Or.inl ⟨by kernel_rfl, ?_⟩) hS ?_
      rotate_left
      · intro w' hSw; go_simp; with_reducible rfl
      try simp only [Act.put, zzA, zzB, zzC, zzD, zzE, zzF]
      refine wpAnyY_take (i := 7) (v := ?_) rfl (by kernel_rfl) (by kernel_rfl) (by kernel_rfl) (by kernel_rfl) (fun _ _ _ h => h) (Or.inl ⟨by kernel_rfl, ?_⟩) hS ?_
      rotate_left
      · intro w' hSw; go_simp; with_reducible rfl
      try simp only [Act.put, zzA, zzB, zzC, zzD, zzE, zzF]
      refine wpAnyY_take (i := 8) (v := undef) rfl (by kernel_rfl) (by kernel_rfl) (by kernel_rfl) (by kernel_rfl) (fun _ _ _ h => h) (Or.inr ⟨by kernel_rfl, rfl⟩) hS ?_
      try simp only [Act.put, zzA, zzB, zzC, zzD, zzE, zzF]
      refine wpAnyY_take (i := 9) (v := undef) rfl (by kernel_rfl) (by kernel_rfl) (by kernel_rfl) (by kernel_rfl) (fun _ _ _ h => h) (Or.inr ⟨by kernel_rfl, rfl⟩) hS ?_
      try simp only [Act.put, zzA, zzB, zzC, zzD, zzE, zzF]
      refine wpAnyY_take (i := 10) (v := undef) rfl (by kernel_rfl) (by kernel_rfl) (by kernel_rfl) (by kernel_rfl) (fun _ _ _ h => h) (Or.inr ⟨by kernel_rfl, rfl⟩) hS ?_
      try simp only [Act.put, zzA, zzB, zzC, zzD, zzE, zzF]
      refine wpAnyY_take (i := 11) (v := undef) rfl (by kernel_rfl) (by kernel_rfl) (by kernel_rfl) (by kernel_rfl) (fun _ _ _ h => h) (Or.inr ⟨by kernel_rfl, rfl⟩) hS ?_
      try simp only [Act.put, zzA, zzB, zzC, zzD, zzE, zzF]
      refine wpAnyY_take (i := 12) (v := undef) rfl (by kernel_rfl) (by kernel_rfl) (by kernel_rfl) (by kernel_rfl) (fun _ _ _ h => h) (Or.inr ⟨by kernel_rfl, rfl⟩) hS ?_
      try simp only [Act.put, zzA, zzB, zzC, zzD, zzE, zzF]
      refine wpAnyY_take (i := 13) (v := undef) rfl (by kernel_rfl) (by kernel_rfl) (by kernel_rfl) (by kernel_rfl) (fun _ _ _ h => h) (Or.inr ⟨by kernel_rfl, rfl⟩) hS ?_
      try simp only [Act.put, zzA, zzB, zzC, zzD, zzE, zzF]
      refine wpAnyY_take (i := 14) (v := undef) rfl (by kernel_rfl) (by kernel_rfl) (by kernel_rfl) (by kernel_rfl) (fun _ _ _ h => h) (Or.inr ⟨by kernel_rfl, rfl⟩) hS ?_
      try simp only [Act.put, zzA, zzB, zzC, zzD, zzE, zzF]
      refine wpAnyY_take (i := 15) (v := undef) rfl (by kernel_rfl) (by kernel_rfl) (by kernel_rfl) (by kernel_rfl) (fun _ _ _ h => h) (Or.inr ⟨by kernel_rfl, rfl⟩) hS ?_
      try simp only [Act.put, zzA, zzB, zzC, zzD, zzE, zzF]
      refine wpAnyY_take (i := 16) (v := undef) rfl (by kernel_rfl) (by kernel_rfl) (by kernel_rfl) (by kernel_rfl) (fun _ _ _ h => h) (Or.inr ⟨by kernel_rfl, rfl⟩) hS ?_
      try simp only [Act.put, zzA, zzB, zzC, zzD, zzE, zzF]
      refine wpAnyY_oneW (i := 17) (by kernel_rfl) rfl (by kernel_rfl) (by kernel_rfl) (fun K17 hK17 => ?_)
      go_simp
      refine hK17.out _ _ ?_
      clear hK17
      try simp only [Act.put, zzA, zzB, zzC, zzD, zzE, zzF]
      refine wpAnyY_done (by kernel_rfl) ?_ _
      clear hS
      have t4 := HS.out.keep gd
      have b4 := b0.keep gd
      have d4 := d0.keep gd
      have HZ2 := Lib.hid (HZ.out _ _ gd rfl)
      clear HZ q1 q2 q3 z1 z2 z3 l1 l2 l3 s0 s1 s2 s3 ls n1 n2 n3 n4 n7 ld
      have s3 := b4.cell 3
      have ls := b4.lt
      have n3 := d4.cell 3
      have ld := d4.lt
      have q3 := t4.r3.cell hkb
      have z3 := t4.r3.frozen kb
      have l3 := t4.r3.lt
      go_upto_region 23 with fail
      go_upto_region 24 with fail
      have t5 := t4.put3 hkb 1
      have b5 := b4.far (p := ⟨g3, kb, none⟩) (by show PB ≠ g3; have := HSZ.out; have := HPB.out; omega) (.int .i64 1)
      have d5 := d4.far (p := ⟨g3, kb, none⟩) (by show PB + 1 ≠ g3; have := HSZ.out; have := HPB.out; omega) (.int .i64 1)
      clear q3 z3 l3 s3 ls n3 ld
      try change Code.wp _ _ _ _ (WD.setCell ⟨g3, kb, none⟩ (.int .i64 1))
      generalize WD.setCell ⟨g3, kb, none⟩ (.int .i64 1) = W5 at *
      have s1 := b5.cell 1
      have ls := b5.lt
      have n2 := d5.cell 2
      have n3 := d5.cell 3
      have ld := d5.lt
      have q1 := t5.r1.cell hkb
      have z1 := t5.r1.frozen kb
      have l1 := t5.r1.lt
      go_wp2_with fail
      first | exact HZ2.out | (go_ret; exact HZ2.out)
end Go.Proofs.YtabnpimidhlbiaaGreat

