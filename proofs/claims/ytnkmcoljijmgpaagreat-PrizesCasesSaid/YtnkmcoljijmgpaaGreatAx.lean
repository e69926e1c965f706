import Derived.Maps.RangeWalk
import Derived.Test.YtnkmcoljijmgpaaGreatAu
set_option linter.unusedSimpArgs false
set_option linter.unusedVariables false
namespace Go.Proofs.YtnkmcoljijmgpaaGreat
open Go.RowKit Go.Shelf Go.Maps
attribute [local go_sem] Oper.semAt_some
theorem law3 : Keyed Tryz.prog 3 := int_keyed Tryz.underlying3
theorem wfI {x : Int} (h : -1000000000000 ≤ x ∧ x ≤ 1000000000000) : (Lit.int .i64 x).wf = true := by
  have e1 : IntKind.i64.min = -9223372036854775808 := by decide
  have e2 : IntKind.i64.max = 9223372036854775807 := by decide
  simp [Lit.wf, e1, e2]
  omega
/-- the sum of the values -/
def valI (d : DataW Unit) : Int := match d with | .lit (.int _ c) => c | _ => 0
def sumE (es : List (Lit × DataW Unit)) : Int := (es.map fun p => valI p.2).sum
def sumD (D : DataW Unit) : Int := match D with | .map es => sumE es | _ => 0
theorem sumE_insert (p : Lit × DataW Unit) : ∀ es : List (Lit × DataW Unit), sumE (DataW.insert p es) = sumE es + valI p.2
  | [] => by simp [DataW.insert, sumE]
  | q :: es => by
    have ih := sumE_insert p es
    unfold DataW.insert
    unfold sumE at *
    split <;> simp_all <;> omega
theorem sumD_put {D : DataW Unit} {k : Lit} {c : Int} (hD : IsMap D) (hn : has D k = false) : sumD (D.put k (.lit (.int .i64 c))) = sumD D + c := by
  obtain ⟨es, rfl⟩ := hD
  rw [has_eq, List.any_eq_false] at hn
  show sumE (DataW.insert (k, _) (es.filter fun p => !p.1.sameKey k)) = sumE es + c
  have e : (es.filter fun p => !p.1.sameKey k) = es := List.filter_eq_self.2 (fun p hp => by have := hn p hp; simpa using this)
  rw [e, sumE_insert]
  rfl
/-- block m is a map that holds these pairs of numbers, no two of one key -/
def Won (W : World) (m : Nat) (ps : List (Int × Int)) : Prop := ∃ D : DataW Unit, W.ownsMap Tryz.prog 3 (plainElem Tryz.prog 3) m ps.length D ∧ (∀ x : Int, has D (.int .i64 x) = ps.any fun p => p.1 == x) ∧ (∀ q, q ∈ ps → ∀ z, D.atKey (.int .i64 q.1) z = .lit (.int .i64 q.2)) ∧ sumD D = (ps.map Prod.snd).sum
theorem Won.made (W : World) : Won (W.alloc (.map #[] 0)) W.heap.size [] := ⟨_, World.ownsMap_made _ _ _ _, fun x => rfl, fun q h => by simp at h, rfl⟩
theorem Won.keep {W W' : World} {m : Nat} {ps : List (Int × Int)} (h : Won W m ps) (hG : G W W') : Won W' m ps := by
  obtain ⟨D, h1, h2⟩ := h
  refine ⟨D, ?_, h2⟩
  obtain ⟨es, clock, hb, F, hs, e⟩ := h1
  exact ⟨es, clock, (hG.block m (Array.getElem?_eq_some_iff.1 hb).1).trans hb, F, hs, e⟩
theorem Won.lt {W : World} {m : Nat} {ps : List (Int × Int)} (h : Won W m ps) : m < W.heap.size := by
  obtain ⟨D, h1, _⟩ := h
  exact h1.lt
theorem Won.store {W : World} {m : Nat} {ps : List (Int × Int)} (h : Won W m ps) {x c : Int} (hx : -1000000000000 ≤ x ∧ x ≤ 1000000000000) (hc : -1000000000000 ≤ c ∧ c ≤ 1000000000000) (hn : ps.length < maxLen) (hf : (ps.any fun p => p.1 == x) = false) :
    ∃ W', (Instr.mapUpdate 90 (.map (some m)) (.int .i64 x) (.int .i64 c)).run Tryz.prog W = .ok () W' ∧ Won W' m (ps ++ [(x, c)]) ∧ W.grownBy W' (some m) := by
  obtain ⟨D, h1, h2, h3, h4⟩ := h
  have hk := keyOf_int_mk (P := Tryz.prog) (k := 3) Tryz.underlying3 (wfI hx)
  obtain ⟨W', hrun, hown, hg⟩ := h1.update law3 Tryz.underlying90 hn hk (plainElem_int Tryz.underlying3 (wfI hc))
  have hkl : WideAt.IsKeyLit (.int .i64 x) := law3.key hk
  have hno : has D (.int .i64 x) = false := by rw [h2]; exact hf
  have hinj : ∀ y : Int, y ≠ x → (Lit.int .i64 y) ≠ .int .i64 x := fun y hy e => hy (by injection e)
  refine ⟨W', hrun, ⟨_, by rw [List.length_append]; exact hown, fun y => ?_, fun q hq z => ?_, ?_⟩, hg⟩
  · rw [List.any_append]
    by_cases e : y = x
    · subst e
      rw [has_put_same h1.isMap hkl]
      simp
    · rw [has_put_other (hinj y e), h2]
      simp [Ne.symm e]
  · rw [List.mem_append, List.mem_singleton] at hq
    rcases hq with hq | rfl
    · have hne : q.1 ≠ x := fun e => by
        rw [List.any_eq_false] at hf
        exact hf q hq (by simp [e])
      rw [atKey_put_other (hinj _ hne)]
      exact h3 q hq z
    · exact atKey_put_same h1.isMap hkl _ _
  · rw [sumD_put h1.isMap hno, h4]
    simp
theorem Won.look {W : World} {m : Nat} {ps : List (Int × Int)} (h : Won W m ps) {x : Int} (hx : -1000000000000 ≤ x ∧ x ≤ 1000000000000) (hz : (zeroValue 3).run Tryz.prog W = .ok (.int .i64 0) W) :
    ∃ c, (Instr.lookup 90 (.map (some m)) (.int .i64 x) false).run Tryz.prog W = .ok (.int .i64 c) W ∧ (∀ q, q ∈ ps → q.1 = x → c = q.2) ∧ ((ps.any fun p => p.1 == x) = false → c = 0) := by
  obtain ⟨D, h1, h2, h3, h4⟩ := h
  have hk := keyOf_int_mk (P := Tryz.prog) (k := 3) Tryz.underlying3 (wfI hx)
  obtain ⟨c, hrun, hat, _⟩ := h1.lookup_int law3 Tryz.underlying90 Tryz.underlying3 hz hk
  refine ⟨c, hrun, fun q hq e => ?_, fun hf => ?_⟩
  · have := h3 q hq (.lit (.int .i64 0))
    rw [e, hat] at this
    simp only [DataW.lit.injEq, Lit.int.injEq, true_and] at this
    exact this
  · have hno : has D (.int .i64 x) = false := by rw [h2]; exact hf
    rw [atKey_of_not_has hno] at hat
    simp only [DataW.lit.injEq, Lit.int.injEq, true_and] at hat
    exact hat.symm
end Go.Proofs.YtnkmcoljijmgpaaGreat
set_option linter.unusedSimpArgs false
set_option linter.unusedVariables false
namespace Go.Proofs.YtnkmcoljijmgpaaGreat
open Go.RowKit Go.Shelf Go.Sort
attribute [local go_sem] Oper.semAt_some
theorem addLast_app (gs : List (List Int)) (g : List Int) (b : Int) : addLast (gs ++ [g]) b = gs ++ [g ++ [b]] := by
  unfold addLast
  rw [List.length_append, List.length_singleton, Nat.add_sub_cancel, getD_last rfl, List.set_append_right _ _ (Nat.le_refl _), Nat.sub_self]
  rfl
theorem addLast_flat {gs : List (List Int)} (h : gs ≠ []) (b : Int) : (addLast gs b).flatten = gs.flatten ++ [b] := by
  obtain ⟨g0, g, rfl⟩ : ∃ g0 g, gs = g0 ++ [g] := ⟨gs.dropLast, gs.getLast h, (List.dropLast_concat_getLast h).symm⟩
  rw [addLast_app]
  simp
/-- the groups are the birds in their order, and none is empty -/
theorem grpTo_flat (l : List Rc) (hd : ∀ i, i < l.length → (l.getD i default).day ≠ 0) : ∀ k, k ≤ l.length → (grpTo l k).flatten = (l.take k).map Rc.bird ∧ ∀ g ∈ grpTo l k, g ≠ []
  | 0, _ => by simp [grpTo]
  | k + 1, hk => by
    obtain ⟨ih1, ih2⟩ := grpTo_flat l hd k (by omega)
    have ht : (l.take (k + 1)).map Rc.bird = (l.take k).map Rc.bird ++ [(l.getD k default).bird] := by
      rw [List.take_add_one, List.map_append, List.getElem?_eq_getElem (by omega)]
      simp [List.getD_eq_getElem?_getD, show k < l.length by omega]
    rw [ht]
    unfold grpTo
    by_cases hs : sameB l k = true
    · rw [if_pos hs]
      have hpos : 0 < (grpTo l k).length := by
        have h1 := grpTo_pos l hd (k + 1) (by omega) hk
        unfold grpTo at h1
        rw [if_pos hs, addLast_len] at h1
        exact h1
      have hne : grpTo l k ≠ [] := fun e => by rw [e] at hpos; simp at hpos
      refine ⟨by rw [addLast_flat hne, ih1], ?_⟩
      obtain ⟨g0, g, he⟩ : ∃ g0 g, grpTo l k = g0 ++ [g] := ⟨_, _, (List.dropLast_concat_getLast hne).symm⟩
      rw [he, addLast_app]
      rw [he] at ih2
      intro x hx
      rcases List.mem_append.1 hx with h | h
      · exact ih2 x (List.mem_append_left _ h)
      · rw [List.mem_singleton.1 h]; simp
    · rw [if_neg hs, addLast_app]
      refine ⟨by rw [List.flatten_append, ih1]; simp, fun x hx => ?_⟩
      rcases List.mem_append.1 hx with h | h
      · exact ih2 x h
      · rw [List.mem_singleton.1 h]; simp
/-- what a group wins of the places that are left: bird and amount -/
def gWon (q : List Int) (g : List Int) : List (Int × Int) := (List.range g.length).map fun i => (g.getD i 0, shareI (q.take (min g.length q.length)).sum g.length i)
/-- behind the first j groups: the places that are left, and what was won -/
def wst (pl : List Int) (gs : List (List Int)) : Nat → List Int × List (Int × Int)
  | 0 => (pl, [])
  | j + 1 => ((wst pl gs j).1.drop (min (gs.getD j []).length (wst pl gs j).1.length), (wst pl gs j).2 ++ gWon (wst pl gs j).1 (gs.getD j []))
def wonL (f : Fu) (st : List Int) : List (Int × Int) := (wst (placesL f) (orderL f st) (orderL f st).length).2
theorem gWon_keys (q g : List Int) : (gWon q g).map Prod.fst = g := by
  unfold gWon
  rw [List.map_map]
  apply List.ext_getElem?
  intro i
  by_cases h : i < g.length
  · simp [h, List.getD_eq_getElem?_getD]
  · simp [h]
theorem wst_keys (pl : List Int) (gs : List (List Int)) : ∀ j, j ≤ gs.length → (wst pl gs j).2.map Prod.fst = (gs.take j).flatten
  | 0, _ => by simp [wst]
  | j + 1, hj => by
    have ih := wst_keys pl gs j (by omega)
    show ((wst pl gs j).2 ++ gWon (wst pl gs j).1 (gs.getD j [])).map Prod.fst = _
    rw [List.map_append, ih, gWon_keys, List.take_add_one, List.flatten_append, List.getElem?_eq_getElem (by omega)]
    simp [List.getD_eq_getElem?_getD, show j < gs.length by omega]
theorem wst_sub (pl : List Int) (gs : List (List Int)) : ∀ j, ∃ k, (wst pl gs j).1 = pl.drop k
  | 0 => ⟨0, by simp [wst]⟩
  | j + 1 => by
    obtain ⟨k, hk⟩ := wst_sub pl gs j
    refine ⟨k + min (gs.getD j []).length (wst pl gs j).1.length, ?_⟩
    show (wst pl gs j).1.drop _ = _
    rw [← List.drop_drop, ← hk]
end Go.Proofs.YtnkmcoljijmgpaaGreat
set_option linter.unusedSimpArgs false
set_option linter.unusedVariables false
namespace Go.Proofs.YtnkmcoljijmgpaaGreat
open Go.RowKit Go.Shelf Go.Sort
attribute [local go_sem] Oper.semAt_some
theorem Won.ne {W : World} {m : Nat} {ps : List (Int × Int)} (h : Won W m ps) {g : Nat} {t : TypeId} {cs : Array Value} (hb : Blk W g t cs) : g ≠ m := fun e => by
  subst e
  obtain ⟨D, h1, _⟩ := h
  obtain ⟨es, clock, hm, _⟩ := h1
  rw [show W.heap[g]? = _ from hb] at hm
  cases hm
theorem Won.ne_cell {W : World} {m : Nat} {ps : List (Int × Int)} (h : Won W m ps) {g o : Nat} {v : Value} (hb : W.cell? ⟨g, o, none⟩ = some v) : g ≠ m := fun e => by
  subst e
  obtain ⟨D, h1, _⟩ := h
  obtain ⟨es, clock, hm, _⟩ := h1
  simp [World.cell?, hm] at hb
theorem ints_fr {A B : World} {m : Nat} {ps : List (Int × Int)} (hw : Won A m ps) (hf : Fr (fun i => i = m) A B) {a : Option Addr} {l : List Int} (h : IntsAt A a l) : IntsAt B a l := by
  rcases h with h | ⟨b, off, h1, h2, h3⟩
  · exact .inl h
  · refine .inr ⟨b, off, h1, Nat.lt_of_lt_of_le h2 hf.size, fun k hk => ?_⟩
    have e := hf.block b h2 (hw.ne_cell (h3 k hk))
    have e3 := h3 k hk
    simp only [World.cell?] at e3 ⊢
    rw [e]
    exact e3
theorem ints_take {W : World} {a : Option Addr} {l : List Int} (h : IntsAt W a l) (t : Nat) : IntsAt W a (l.take t) := by
  rcases h with rfl | ⟨b, off, h1, h2, h3⟩
  · exact .inl (by simp)
  · refine .inr ⟨b, off, h1, h2, fun k hk => ?_⟩
    rw [List.length_take] at hk
    rw [h3 k (by omega)]
    simp [List.getD_eq_getElem?_getD, List.getElem?_take_of_lt (show k < t by omega)]
theorem ints_drop {W : World} {b off : Nat} {l : List Int} (h : IntsAt W (some ⟨b, off, none⟩) l) (t : Nat) : IntsAt W (some ⟨b, off + t, none⟩) (l.drop t) := by
  rcases h with rfl | ⟨b', off', h1, h2, h3⟩
  · exact .inl (by simp)
  · simp only [Option.some.injEq, Addr.mk.injEq, and_true] at h1
    obtain ⟨rfl, rfl⟩ := h1
    refine .inr ⟨_, _, rfl, h2, fun k hk => ?_⟩
    rw [List.length_drop] at hk
    rw [Nat.add_assoc, h3 (t + k) (by omega)]
    simp [List.getD_eq_getElem?_getD]
/-- the bounds that the sums need, and the rings -/
structure WonOk (PL : List Int) (GS : List (List Int)) : Prop where
  pl : PL.length ≤ 1000
  sums : ∀ k t, 0 ≤ ((PL.drop k).take t).sum ∧ ((PL.drop k).take t).sum ≤ 1000000000
  gl : GS.length ≤ 12
  gne : ∀ g ∈ GS, g ≠ [] ∧ g.length ≤ 12
  keys : GS.flatten.Pairwise fun a b => a ≠ b
  kb : ∀ b ∈ GS.flatten, 0 ≤ b ∧ b ≤ 9999
def PaOk (pa : Option Addr) (n pc : Nat) : Prop := (pa = none ∧ n = 0 ∧ pc = 0) ∨ ∃ b off, pa = some ⟨b, off, none⟩
theorem gWon_len (q g : List Int) : (gWon q g).length = g.length := by simp [gWon]
theorem gWon_get (q g : List Int) {i : Nat} (h : i < g.length) : (gWon q g).getD i (0, 0) = (g.getD i 0, shareI (q.take (min g.length q.length)).sum g.length i) := by
  unfold gWon
  simp [List.getD_eq_getElem?_getD, h]
theorem gWon_take (q g : List Int) {i : Nat} (h : i < g.length) : (gWon q g).take (i + 1) = (gWon q g).take i ++ [(g.getD i 0, shareI (q.take (min g.length q.length)).sum g.length i)] := by
  have hl : i < (gWon q g).length := by rw [gWon_len]; exact h
  rw [List.take_add_one, List.getElem?_eq_getElem hl, ← gWon_get q g h]
  simp [List.getD_eq_getElem?_getD, hl]
theorem fresh {GS : List (List Int)} (hk : GS.flatten.Pairwise fun a b => a ≠ b) {j i : Nat} (hj : j < GS.length) (hi : i < (GS.getD j []).length) (PL : List Int) :
    ((wst PL GS j).2 ++ (gWon (wst PL GS j).1 (GS.getD j [])).take i).any (fun p => p.1 == (GS.getD j []).getD i 0) = false := by
  have hgj : GS.getD j [] = GS[j] := by simp [List.getD_eq_getElem?_getD, hj]
  have e : GS.flatten = (GS.take j).flatten ++ (GS.getD j [] ++ (GS.drop (j + 1)).flatten) := by
    conv => lhs; rw [← List.take_append_drop j GS]
    rw [List.flatten_append, List.drop_eq_getElem_cons hj, List.flatten_cons, hgj]
  rw [e] at hk
  have hwk := wst_keys PL GS j (by omega)
  clear e hgj
  generalize GS.getD j [] = gr at *
  generalize (GS.drop (j + 1)).flatten = R at *
  generalize (GS.take j).flatten = L at *
  generalize (wst PL GS j).2 = acc at *
  generalize (wst PL GS j).1 = q at *
  rw [List.pairwise_append] at hk
  obtain ⟨_, h2, h3⟩ := hk
  rw [List.pairwise_append] at h2
  have hgi : gr.getD i 0 = gr[i] := by simp [List.getD_eq_getElem?_getD, hi]
  have hmem : gr.getD i 0 ∈ gr := by rw [hgi]; exact List.getElem_mem _
  rw [List.any_eq_false]
  intro p hp
  rw [List.mem_append] at hp
  have hne : p.1 ≠ gr.getD i 0 := by
    rcases hp with hp | hp
    · have h5 : p.1 ∈ L := by
        rw [← hwk]
        exact List.mem_map.2 ⟨p, hp, rfl⟩
      exact h3 _ h5 _ (List.mem_append_left _ hmem)
    · obtain ⟨t, ht, rfl⟩ := List.mem_iff_getElem.1 hp
      rw [List.length_take, gWon_len] at ht
      have htl : t < gr.length := by omega
      have hgt : gr.getD t 0 = gr[t] := by simp [List.getD_eq_getElem?_getD, htl]
      have e2 := gWon_get q gr htl
      rw [List.getElem_take]
      have e3 : (gWon q gr)[t]'(by rw [gWon_len]; omega) = (gWon q gr).getD t (0, 0) := by
        rw [List.getD_eq_getElem?_getD, List.getElem?_eq_getElem (by rw [gWon_len]; omega)]
        rfl
      rw [e3, e2]
      have h6 := List.pairwise_iff_getElem.1 h2.1 t i htl hi (by omega)
      rw [hgi]
      show gr.getD t 0 ≠ gr[i]
      rw [hgt]
      exact h6
  simpa using hne
def WonPost (w : World) (ps : List (Int × Int)) (e : Ending) (w' : World) : Prop := ∃ m, e = .returned (.map (some m)) ∧ Won w' m ps ∧ w.heap.size ≤ m ∧ G w w'
end Go.Proofs.YtnkmcoljijmgpaaGreat
