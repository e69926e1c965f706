import Derived.Sort.MapsRangeIn
import Derived.Test.YtnkmcoljijmgpaaGreatBo
set_option linter.unusedSimpArgs false
set_option linter.unusedVariables false
namespace Go.Proofs.YtnkmcoljijmgpaaGreat
open Go.RowKit Go.Shelf Go.Maps
attribute [local go_sem] Oper.semAt_some
/-- how a purse reads -/
def puD (x : Pu) : DataW Unit := .agg [.lit (.int .i64 x.owner), .lit (.int .i64 x.staked), .lit (.int .i64 x.paid)]
theorem puD_inj {x y : Pu} (h : puD x = puD y) : x = y := by
  obtain ⟨a, b, c⟩ := x
  obtain ⟨d, e, f⟩ := y
  simp only [puD, DataW.agg.injEq, List.cons.injEq, DataW.lit.injEq, Lit.int.injEq, true_and, and_true] at h
  obtain ⟨rfl, rfl, rfl⟩ := h
  rfl
noncomputable def puR (v : Value) : Option (DataW Unit × List MemPlace) := open Classical in if h : ∃ x : Pu, v = .agg x.v then some (puD h.choose, []) else none
theorem puV_inj {x y : Pu} (h : Value.agg x.v = .agg y.v) : x = y := by
  obtain ⟨a, b, c⟩ := x
  obtain ⟨d, e, f⟩ := y
  simp only [Pu.v, Value.agg.injEq, Array.mk.injEq, List.cons.injEq, Value.int.injEq, true_and, and_true] at h
  obtain ⟨rfl, rfl, rfl⟩ := h
  rfl
theorem puR_mk (x : Pu) : puR (.agg x.v) = some (puD x, []) := by
  have h : ∃ y : Pu, Value.agg x.v = .agg y.v := ⟨x, rfl⟩
  unfold puR
  rw [dif_pos h, ← puV_inj h.choose_spec]
theorem puR_inv {v : Value} {y : DataW Unit × List MemPlace} (h : puR v = some y) : ∃ x : Pu, v = .agg x.v ∧ y = (puD x, []) := by
  unfold puR at h
  by_cases hx : ∃ x : Pu, v = .agg x.v
  · rw [dif_pos hx] at h
    exact ⟨hx.choose, hx.choose_spec, by cases h; rfl⟩
  · rw [dif_neg hx] at h
    cases h
/-- block m is a map of purses by owner, of at most N entries -/
def PuM (W : World) (m N : Nat) (ps : List Pu) : Prop := ∃ D : DataW Unit, W.ownsMap Tryz.prog 3 puR m N D ∧ (∀ x : Int, has D (.int .i64 x) = ps.any fun p => p.owner == x) ∧ ∀ q, q ∈ ps → ∀ z, D.atKey (.int .i64 q.owner) z = puD q
theorem PuM.made (W : World) : PuM (W.alloc (.map #[] 0)) W.heap.size 0 [] := ⟨_, World.ownsMap_made _ _ _ _, fun x => rfl, fun q h => by simp at h⟩
theorem PuM.keep {W W' : World} {m N : Nat} {ps : List Pu} (h : PuM W m N ps) (hG : G W W') : PuM W' m N ps := by
  obtain ⟨D, h1, h2⟩ := h
  refine ⟨D, ?_, h2⟩
  obtain ⟨es, clock, hb, F, hs, e⟩ := h1
  exact ⟨es, clock, (hG.block m (Array.getElem?_eq_some_iff.1 hb).1).trans hb, F, hs, e⟩
theorem PuM.grown {W W' : World} {m N : Nat} {ps : List Pu} {row : Option Nat} (h : PuM W m N ps) (hg : W.grownBy W' row) (hne : some m ≠ row) : PuM W' m N ps := by
  obtain ⟨D, h1, h2⟩ := h
  exact ⟨D, h1.kept hg hne, h2⟩
theorem PuM.lt {W : World} {m N : Nat} {ps : List Pu} (h : PuM W m N ps) : m < W.heap.size := by
  obtain ⟨D, h1, _⟩ := h
  exact h1.lt
theorem PuM.ne {W : World} {m N : Nat} {ps : List Pu} (h : PuM W m N ps) {g : Nat} {t : TypeId} {cs : Array Value} (hb : Blk W g t cs) : g ≠ m := fun e => by
  subst e
  obtain ⟨D, h1, _⟩ := h
  obtain ⟨es, clock, hm, _⟩ := h1
  rw [show W.heap[g]? = _ from hb] at hm
  cases hm
theorem own_pum {W : World} {m N : Nat} {ps : List Pu} {b s n : Nat} {e : TypeId} {v : Value} {xs : List Value} (hw : PuM W m N ps) (h : W.ownsRow b e s v n xs) : some m ≠ v.ownBlock := by
  rcases h.2 with ⟨rfl, _⟩ | ⟨g, cap, cur, rfl, _, hg, _⟩
  · exact fun e => by cases e
  · exact fun e => by
      have e2 : m = g := by injection e
      exact hw.ne (show Blk W g _ cur from hg) e2.symm
/-- a purse is put: in the place of the one of its owner, or as a new one -/
def putP (ps : List Pu) (q : Pu) : List Pu := if ps.any (fun p => p.owner == q.owner) = true then ps.map (fun p => if p.owner = q.owner then q else p) else ps ++ [q]
/-- the purse of an owner -/
def atP (ps : List Pu) (x : Int) : Pu := match ps.find? fun p => p.owner == x with | some q => q | none => ⟨0, 0, 0⟩
theorem putP_any (ps : List Pu) (q : Pu) (y : Int) : (putP ps q).any (fun p => p.owner == y) = (ps.any (fun p => p.owner == y) || q.owner == y) := by
  unfold putP
  by_cases h : ps.any (fun p => p.owner == q.owner) = true
  · rw [if_pos h, List.any_map]
    by_cases hy : q.owner = y
    · subst hy
      simp only [beq_self_eq_true, Bool.or_true]
      obtain ⟨p, hp, he⟩ := List.any_eq_true.1 h
      refine List.any_eq_true.2 ⟨p, hp, ?_⟩
      have e : p.owner = q.owner := by simpa using he
      simp [e]
    · have e0 : (q.owner == y) = false := by simpa using hy
      rw [e0, Bool.or_false]
      congr 1
      funext p
      simp only [Function.comp]
      by_cases e : p.owner = q.owner
      · rw [if_pos e, e]
      · rw [if_neg e]
  · rw [if_neg h, List.any_append]
    simp
theorem putP_mem {ps : List Pu} {q p : Pu} (h : p ∈ putP ps q) : p = q ∨ (p ∈ ps ∧ p.owner ≠ q.owner) := by
  unfold putP at h
  by_cases ha : ps.any (fun p => p.owner == q.owner) = true
  · rw [if_pos ha] at h
    obtain ⟨p', hp', he⟩ := List.mem_map.1 h
    by_cases e : p'.owner = q.owner
    · rw [if_pos e] at he
      exact .inl he.symm
    · rw [if_neg e] at he
      subst he
      exact .inr ⟨hp', e⟩
  · rw [if_neg ha] at h
    rcases List.mem_append.1 h with h | h
    · refine .inr ⟨h, fun e => ha (List.any_eq_true.2 ⟨p, h, by simpa using e⟩)⟩
    · exact .inl (List.mem_singleton.1 h)
theorem putP_uniq {ps : List Pu} (h : UniqP ps) (q : Pu) : UniqP (putP ps q) := by
  unfold putP
  by_cases ha : ps.any (fun p => p.owner == q.owner) = true
  · rw [if_pos ha]
    unfold UniqP at *
    rw [List.pairwise_map]
    refine h.imp fun {a b} hab => ?_
    by_cases e1 : a.owner = q.owner
    · rw [if_pos e1]
      by_cases e2 : b.owner = q.owner
      · exact absurd (e1.trans e2.symm) hab
      · rw [if_neg e2]; exact fun e => e2 e.symm
    · rw [if_neg e1]
      by_cases e2 : b.owner = q.owner
      · rw [if_pos e2]; exact e1
      · rw [if_neg e2]; exact hab
  · rw [if_neg ha]
    unfold UniqP at *
    rw [List.pairwise_append]
    refine ⟨h, by simp, fun a ha' b hb e => ?_⟩
    rw [List.mem_singleton.1 hb] at e
    exact ha (List.any_eq_true.2 ⟨a, ha', by simpa using e⟩)
theorem PuM.store {W : World} {m N : Nat} {ps : List Pu} (h : PuM W m N ps) (q : Pu) (hx : -1000000000000 ≤ q.owner ∧ q.owner ≤ 1000000000000) (hn : N < maxLen) :
    ∃ W', (Instr.mapUpdate 93 (.map (some m)) (.int .i64 q.owner) (.agg q.v)).run Tryz.prog W = .ok () W' ∧ PuM W' m (N + 1) (putP ps q) ∧ W.grownBy W' (some m) := by
  obtain ⟨D, h1, h2, h3⟩ := h
  have hk := keyOf_int_mk (P := Tryz.prog) (k := 3) Tryz.underlying3 (wfI hx)
  obtain ⟨W', hrun, hown, hg⟩ := h1.update law3 Tryz.underlying93 hn hk (puR_mk q)
  have hkl : WideAt.IsKeyLit (.int .i64 q.owner) := law3.key hk
  have hinj : ∀ y : Int, y ≠ q.owner → (Lit.int .i64 y) ≠ .int .i64 q.owner := fun y hy e => hy (by injection e)
  refine ⟨W', hrun, ⟨_, hown, fun y => ?_, fun p hp z => ?_⟩, hg⟩
  · rw [putP_any]
    by_cases e : y = q.owner
    · subst e
      rw [has_put_same h1.isMap hkl]
      simp
    · rw [has_put_other (hinj y e), h2]
      simp [Ne.symm e]
  · rcases putP_mem hp with rfl | ⟨hp, hne⟩
    · exact atKey_put_same h1.isMap hkl _ _
    · rw [atKey_put_other (hinj _ hne)]
      exact h3 p hp z
theorem PuM.at {W : World} {m N : Nat} {ps : List Pu} (h : PuM W m N ps) {x : Int} (hx : -1000000000000 ≤ x ∧ x ≤ 1000000000000) (hz : (zeroValue 47).run Tryz.prog W = .ok (.agg #[.int .i64 0, .int .i64 0, .int .i64 0]) W) :
    (Instr.lookup 93 (.map (some m)) (.int .i64 x) false).run Tryz.prog W = .ok (.agg (atP ps x).v) W := by
  obtain ⟨D, h1, h2, h3⟩ := h
  have hk := keyOf_int_mk (P := Tryz.prog) (k := 3) Tryz.underlying3 (wfI hx)
  obtain ⟨v, zp, hrun, hv⟩ := h1.lookup law3 Tryz.underlying93 hz (puR_mk ⟨0, 0, 0⟩) hk
  obtain ⟨y, rfl, hy⟩ := puR_inv hv
  have e : y = atP ps x := by
    refine puD_inj ?_
    have h5 : D.atKey (.int .i64 x) (puD ⟨0, 0, 0⟩) = puD y := (congrArg Prod.fst hy)
    rw [← h5]
    unfold atP
    cases hf : ps.find? fun p => p.owner == x with
    | none =>
      have hno : has D (.int .i64 x) = false := by
        rw [h2]
        refine List.any_eq_false.2 fun q hq => ?_
        have := List.find?_eq_none.1 hf q hq
        simpa using this
      exact atKey_of_not_has hno _
    | some q =>
      have h6 := List.find?_some hf
      have h7 : q.owner = x := by simpa using h6
      rw [← h7]
      exact h3 q (List.mem_of_find?_eq_some hf) _
  rw [← e]
  exact hrun
end Go.Proofs.YtnkmcoljijmgpaaGreat
