import Derived.Test.YtnkmcoljijmgpaaGreatFe
import Derived.Test.YtnkmcoljijmgpaaGreatEm
import Derived.ChangeOld
set_option linter.unusedSimpArgs false
set_option linter.unusedVariables false
namespace Go.Proofs.YtnkmcoljijmgpaaGreat
open Go.RowKit Go.Shelf Go.Sort Go.Maps
attribute [local go_sem] Oper.semAt_some
theorem own_pre {W : World} {B g c x : Nat} {l : List Int} (h : W.ownsRow B 3 1 (.slice (some ⟨g, 0, none⟩) l.length c) l.length (iv l)) (hx : x ≤ l.length) : W.ownsRow B 3 1 (.slice (some ⟨g, 0, none⟩) x c) x (iv (l.take x)) := by
  have hl := h.1
  rcases h.2 with ⟨h0, _⟩ | ⟨g', cap, cur, he, hb, hg, h1, h2, h3, h4⟩
  · cases h0
  · injection he with e1 e2 e3
    injection e1 with e1
    injection e1 with e1 _ _
    subst e1 e3
    refine ⟨by unfold iv; rw [List.length_map, List.length_take]; omega, .inr ⟨g, c, cur, rfl, hb, hg, by omega, h2, h3, ?_⟩⟩
    have e : (cur.toList.take (l.length * 1)).take x = (iv l).take x := by rw [h4]
    rw [List.take_take, show min x (l.length * 1) = x by omega] at e
    rw [Nat.mul_one, e]
    unfold iv
    rw [List.map_take]
/-- behind the first k racers -/
def mixS (S : List Int) (l : List Rc) (k : Nat) : List Rc := (l.take k).map (outS S) ++ l.drop k
theorem mixS_len (S : List Int) (l : List Rc) (k : Nat) : (mixS S l k).length = l.length := by
  unfold mixS
  rw [List.length_append, List.length_map, List.length_take, List.length_drop]
  omega
theorem mixS_zero (S : List Int) (l : List Rc) : mixS S l 0 = l := by simp [mixS]
theorem mixS_all (S : List Int) (l : List Rc) : mixS S l l.length = l.map (outS S) := by simp [mixS]
theorem mixS_get {S : List Int} {l : List Rc} {k : Nat} (h : k < l.length) : (mixS S l k).getD k default = l.getD k default := by
  unfold mixS
  rw [List.getD_eq_getElem?_getD, List.getElem?_append_right (by rw [List.length_map, List.length_take]; omega), List.length_map, List.length_take, List.getElem?_drop, List.getD_eq_getElem?_getD]
  congr 2
  omega
theorem mixS_step {S : List Int} {l : List Rc} {k : Nat} (h : k < l.length) : (mixS S l k).set k (outS S (l.getD k default)) = mixS S l (k + 1) := by
  unfold mixS
  rw [List.set_append_right _ _ (by rw [List.length_map, List.length_take]; omega), List.length_map, List.length_take, show k - min k l.length = 0 by omega]
  have e1 : l.drop k = l.getD k default :: l.drop (k + 1) := by
    rw [List.drop_eq_getElem_cons h, List.getD_eq_getElem?_getD, List.getElem?_eq_getElem h]
    rfl
  have e2 : l.take (k + 1) = l.take k ++ [l.getD k default] := by
    rw [List.take_add_one, List.getElem?_eq_getElem h, List.getD_eq_getElem?_getD, List.getElem?_eq_getElem h]
    rfl
  rw [e1, List.set_cons_zero, e2, List.map_append, List.append_assoc]
  rfl
theorem mixS_same {S : List Int} {l : List Rc} {k : Nat} (h : k < l.length) (hs : inL S (l.getD k default).bird = false) : mixS S l (k + 1) = mixS S l k := by
  rw [← mixS_step h, outS_no hs]
  apply List.ext_getElem?
  intro i
  rw [List.getElem?_set, mixS_len]
  by_cases c : k = i
  · subst c
    rw [if_pos rfl, if_pos h]
    have e := mixS_get (S := S) h
    rw [List.getD_eq_getElem?_getD, List.getElem?_eq_getElem (show k < (mixS S l k).length by rw [mixS_len]; exact h)] at e
    rw [List.getElem?_eq_getElem (show k < (mixS S l k).length by rw [mixS_len]; exact h), ← e]
    rfl
  · rw [if_neg c]
/-- one racer is struck, in its row -/
theorem out_row {W : World} {B c g k : Nat} {a : Option Addr} {l : List Rc} {S : List Int} (h : W.ownsRow B 60 5 (.slice a l.length c) l.length (rcV (mixS S l k))) (ha : a = some ⟨g, 0, none⟩) (hk : k < l.length) (hs : inL S (l.getD k default).bird = true) :
    ((W.setCell ⟨g, k * 5 + 2, none⟩ (.int .i64 0)).setCell ⟨g, k * 5 + 3, none⟩ (.int .i64 0)).drew.ownsRow B 60 5 (.slice a l.length c) l.length (rcV (mixS S l (k + 1))) := by
  have hm := mixS_len S l k
  rw [← hm] at h
  have hk' : k < (mixS S l k).length := by omega
  have hg := mixS_get (S := S) hk
  have r1 := row_put1 (y := ⟨(l.getD k default).bird, (l.getD k default).owner, 0, (l.getD k default).day, (l.getD k default).pa, (l.getD k default).pc, (l.getD k default).pools⟩) (j := 2) (v := .int .i64 0) h ha hk' (by decide) (by rw [hg]; rfl)
  obtain ⟨y1, hy1⟩ : ∃ y1 : Rc, y1 = ⟨(l.getD k default).bird, (l.getD k default).owner, 0, (l.getD k default).day, (l.getD k default).pa, (l.getD k default).pc, (l.getD k default).pools⟩ := ⟨_, rfl⟩
  rw [← hy1] at r1
  have e : ((mixS S l k).set k y1).length = (mixS S l k).length := List.length_set ..
  rw [← e] at r1
  have hq2 : k < ((mixS S l k).set k y1).length := by omega
  have eg : ((mixS S l k).set k y1).getD k default = y1 := by rw [getD_setR hk', if_pos rfl]
  have r2 := row_put1 (y := outS S (l.getD k default)) (j := 3) (v := .int .i64 0) r1 ha hq2 (by decide) (by
    rw [eg, hy1]
    unfold outS
    rw [hs]
    rfl)
  rw [List.set_set, mixS_step hk, e, hm] at r2
  exact r2
/-- the copy, with other racers in its row, and other protests -/
theorem cp_at3 {W : World} {B1 B2 : Nat} {r o : Ra} {L : List Rc} {ta : Option Addr} {tc : Nat} {ps : List Int} (hAT : r.At W) (hrr : W.ownsRow B1 60 5 (.slice o.ra L.length o.rc) L.length (rcV L)) (hL : ∀ y ∈ L, IntsAt W y.pa y.pools ∧ y.pools.length ≤ 1000) (hlen : L.length = r.racers.length)
    (hpr : W.ownsRow B1 42 6 (.slice o.pa o.pools.length o.pc) o.pools.length (cv Po.v o.pools)) (hpt : ∀ y ∈ o.pools, W.ownsRow B1 3 1 (.slice y.ta y.table.length y.tc) y.table.length (iv y.table))
    (htr : W.ownsRow B2 3 1 (.slice ta ps.length tc) ps.length (iv ps)) (hep : o.pools.map poP = r.pools.map poP) (hps : ps.length ≤ 1000) :
    (⟨o.ra, o.rc, L, o.pa, o.pc, o.pools, ta, tc, ps⟩ : Ra).At W := by
  have hl : o.pools.length = r.pools.length := by
    have e := congrArg List.length hep
    simpa using e
  have hints : ∀ {B : Nat} {a : Option Addr} {c : Nat} {l : List Int}, W.ownsRow B 3 1 (.slice a l.length c) l.length (iv l) → IntsAt W a l := fun {B a c l} ho => by
    obtain ⟨a', c', e, hI⟩ := own_ints ho
    injection e with e1 _ _
    rw [e1]
    exact hI
  have hmem : ∀ {i : Nat}, i < L.length → L.getD i default ∈ L := fun {i} hi => by
    rw [List.getD_eq_getElem?_getD, List.getElem?_eq_getElem hi]
    exact List.getElem_mem hi
  have hmemP : ∀ {i : Nat}, i < o.pools.length → o.pools.getD i default ∈ o.pools := fun {i} hi => by
    rw [List.getD_eq_getElem?_getD, List.getElem?_eq_getElem hi]
    exact List.getElem_mem hi
  refine ⟨⟨(own_fn hrr).2, fun i hi => (hL _ (hmem hi)).1⟩, ⟨?_, fun i hi => hints (hpt _ (hmemP hi))⟩, hints htr, by show L.length ≤ 1000; rw [hlen]; exact hAT.nr, own_cap hrr, own_cap htr, by show o.pools.length ≤ 1000; rw [hl]; exact hAT.np, hps, fun i hi => (hL _ (hmem hi)).2, fun i hi => ?_⟩
  · obtain ⟨a', c', e, hR⟩ := own_rowE (v := Po.v) (fun x => rfl) hpr
    injection e with e1 _ _
    show RowE Po.v 6 W o.pa o.pools
    rw [e1]
    exact hR
  · have e := congrArg (fun m => m[i]?) hep
    simp only [List.getElem?_map] at e
    have hi' : i < o.pools.length := hi
    have hi2 : i < r.pools.length := by omega
    have h2 := hAT.nb i hi2
    rw [List.getD_eq_getElem?_getD, List.getElem?_eq_getElem hi2] at h2
    show (o.pools.getD i default).table.length ≤ 1000
    rw [List.getD_eq_getElem?_getD, List.getElem?_eq_getElem hi']
    rw [List.getElem?_eq_getElem hi', List.getElem?_eq_getElem hi2] at e
    simp only [Option.map_some, Option.some.injEq] at e
    have e3 : (o.pools[i]).table = (r.pools[i]).table := congrArg (fun q => q.2.2.2.1) e
    show (o.pools[i]).table.length ≤ 1000
    rw [e3]
    exact h2
/-- the copy behind a decision, as it lies -/
theorem dec_at {W4 W5 : World} {B1 B2 g : Nat} {r o : Ra} {S : List Int} {ta : Option Addr} {tc : Nat} {ps : List Int} (hAT : r.At W5) (hF : Fr (fun i => i = g) W4 W5) (hoa : o.ra = some ⟨g, 0, none⟩) (hrr4 : W4.ownsRow B1 60 5 (.slice o.ra o.racers.length o.rc) o.racers.length (rcV o.racers))
    (hrr : W5.ownsRow B1 60 5 (.slice o.ra o.racers.length o.rc) o.racers.length (rcV (o.racers.map (outS S))))
    (hrp : ∀ y ∈ o.racers, W4.ownsRow B1 3 1 (.slice y.pa y.pools.length y.pc) y.pools.length (iv y.pools))
    (hpr : W4.ownsRow B1 42 6 (.slice o.pa o.pools.length o.pc) o.pools.length (cv Po.v o.pools)) (hpt : ∀ y ∈ o.pools, W4.ownsRow B1 3 1 (.slice y.ta y.table.length y.tc) y.table.length (iv y.table))
    (htr : W4.ownsRow B2 3 1 (.slice ta ps.length tc) ps.length (iv ps)) (her : o.racers.map rcP = r.racers.map rcP) (hep : o.pools.map poP = r.pools.map poP) (hps : ps.length ≤ 1000) :
    (⟨o.ra, o.rc, o.racers.map (outS S), o.pa, o.pc, o.pools, ta, tc, ps⟩ : Ra).At W5 := by
  have hlo : o.racers.length = r.racers.length := by
    have e := congrArg List.length her
    simpa using e
  have hne : ∀ {B T z n : Nat} {v : Value} {xs : List Value}, W4.ownsRow B T z v n xs → T ≠ 60 → ∀ g', v.ownBlock = some g' → ¬ (g' = g) := fun {B T z n v xs} hv hT g' hg e => by
    rcases own_own hv hrr4 hT with h | h
    · rw [hg] at h
      cases h
    · exact h (hg.trans (by rw [e, hoa]; rfl))
  have hrr' : W5.ownsRow B1 60 5 (.slice o.ra (o.racers.map (outS S)).length o.rc) (o.racers.map (outS S)).length (rcV (o.racers.map (outS S))) := by rw [List.length_map]; exact hrr
  refine cp_at3 (o := o) hAT hrr' (fun y hy => ?_) (by rw [List.length_map, hlo]) (own_Fr hpr hF (hne hpr (by decide))) (fun y hy => own_Fr (hpt y hy) hF (hne (hpt y hy) (by decide))) (own_Fr htr hF (hne htr (by decide))) hep hps
  obtain ⟨x, hx, rfl⟩ := List.mem_map.1 hy
  have e1 : (outS S x).pa = x.pa := by unfold outS; split <;> rfl
  have e2 : (outS S x).pools = x.pools := by unfold outS; split <;> rfl
  rw [e1, e2]
  have h1 := own_Fr (hrp x hx) hF (hne (hrp x hx) (by decide))
  obtain ⟨a', c', e, hI⟩ := own_ints h1
  injection e with e3 _ _
  refine ⟨by rw [e3]; exact hI, ?_⟩
  obtain ⟨z, hz, e4⟩ := mem_P her hx
  obtain ⟨i, hi, rfl⟩ := List.mem_iff_getElem.1 hz
  have h5 := hAT.nq i hi
  rw [List.getD_eq_getElem?_getD, List.getElem?_eq_getElem hi] at h5
  have e5 : (r.racers[i]).pools = x.pools := congrArg (fun q => q.2.2.2.2) e4
  rw [← e5]
  exact h5
theorem named_q {r : Ra} {p b : Int} (hq : qE r p [] = 0) (h : inL (namedL r p) b = true) : qE r p [b] = 0 := by
  obtain ⟨h1, h2⟩ := qE_parts hq
  unfold qE
  rw [if_pos h1, if_pos h2, if_pos]
  refine allU_iff.2 fun i hi => ?_
  have hi0 : i = 0 := by simpa using hi
  subst hi0
  show hasB (runners r p) b = true
  rw [hasB_mem]
  unfold namedL at h
  obtain ⟨x, hx, e⟩ := List.mem_map.1 (inL_iff.1 h)
  exact ⟨x, hx, e⟩
/-- what First hands, told for the walk of a law -/
theorem fiC (r : Ra) (p : Int) (w : World) (h : r.At w) (hq : qE r p [] = 0) : Calls Tryz.prog 29 #[.agg r.v, .int .i64 p] w fun e w' => G w w' ∧ ∃ (a1 : Option Addr) (c1 : Nat) (a2 : Option Addr) (c2 : Nat) (S M : List Int), e = .returned (.tuple #[.slice a1 S.length c1, .slice a2 M.length c2, .int .i64 0]) ∧ IntsAt w' a1 S ∧ IntsAt w' a2 M ∧ FiOk (fuOf r p none 0) (caseL r.protests) S M := by
  refine (First_any r p w h).mono ?_
  rintro e w' ⟨hG, ⟨h1, _⟩ | ⟨_, v1, v2, S, M, rfl, o1, o2, hf⟩⟩
  · exact absurd hq h1
  · obtain ⟨a1, c1, rfl, i1⟩ := own_ints o1
    obtain ⟨a2, c2, rfl, i2⟩ := own_ints o2
    exact ⟨hG, a1, c1, a2, c2, S, M, rfl, i1, i2, hf⟩
end Go.Proofs.YtnkmcoljijmgpaaGreat
namespace Go.Proofs.YtnkmcoljijmgpaaGreat
open Go.RowKit Go.Shelf Go.ChangeShapes Go.WideShapes Go.ChangeAt
theorem k75 : Tryz.prog.cellsOf 75 = 4 := by kernel_rfl
theorem k4b : Tryz.prog.cellsOf 4 = 1 := by kernel_rfl
set_option maxRecDepth 100000 in
theorem dec75_val {H : Type} {enc : TypeId × Value → H} {w : World} {v : Value} {d : DataW H} {p : List MemPlace} {r : Reach} {b0 : Nat} (hv : Value.okWide Tryz.prog w r b0 75 v) (h : DataW.Trod enc Tryz.prog w 0 (fun _ => true) true 75 v d p) :
    ∃ (a : Int) (u : Bool) (b c : Int), v = .agg #[.int .i64 a, .bool u, .int .i64 b, .int .i64 c] := by
  obtain ⟨cs, rfl, hsz⟩ := okWide_struct Tryz.underlying75 hv
  rw [k75] at hsz
  obtain ⟨l⟩ := cs
  obtain ⟨fuel, hf0⟩ := h
  obtain ⟨xs, n, _, _, hl, hlen, hf⟩ := DataW.trod_struct Tryz.underlying75 hf0
  match l, hsz, xs, hlen with
  | [c0, c1, c2, c3], _, [y0, y1, y2, y3], _ =>
    have h0 := hf 0 _ rfl
    have h1 := hf 1 _ rfl
    have h2 := hf 2 _ rfl
    have h3 := hf 3 _ rfl
    simp [k3, k4b, Value.cells] at h0 h1 h2 h3
    obtain ⟨a0, e0, _, _⟩ := DataW.trod_int Tryz.underlying3 h0
    obtain ⟨a1, e1, _⟩ := DataW.trod_bool Tryz.underlying4 h1
    obtain ⟨a2, e2, _, _⟩ := DataW.trod_int Tryz.underlying3 h2
    obtain ⟨a3, e3, _, _⟩ := DataW.trod_int Tryz.underlying3 h3
    simp at e0 e1 e2 e3
    subst e0 e1 e2 e3
    exact ⟨a0, a1, a2, a3, rfl⟩
end Go.Proofs.YtnkmcoljijmgpaaGreat
