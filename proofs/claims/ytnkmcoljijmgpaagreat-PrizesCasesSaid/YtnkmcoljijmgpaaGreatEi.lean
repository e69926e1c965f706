import Derived.Test.YtnkmcoljijmgpaaGreatEh
import Derived.Test.YtnkmcoljijmgpaaGreatAu
import Derived.Test.YtnkmcoljijmgpaaGreatDc
set_option linter.unusedSimpArgs false
set_option linter.unusedVariables false
namespace Go.Proofs.YtnkmcoljijmgpaaGreat
open Go.RowKit Go.Shelf Go.Sort Go.Maps
attribute [local go_sem] Oper.semAt_some
/-- a row of rows of numbers, to be read -/
def GrpAt (W : World) (va : Option Addr) (gs : List (List Int)) : Prop := ∀ j, j < gs.length → ∃ go ga gc, va = some ⟨go, 0, none⟩ ∧ go < W.heap.size ∧ W.cell? ⟨go, j, none⟩ = some (.slice ga (gs.getD j []).length gc) ∧ IntsAt W ga (gs.getD j [])
theorem GrpAt.keep {W W' : World} {va : Option Addr} {gs : List (List Int)} (h : GrpAt W va gs) (hG : G W W') : GrpAt W' va gs := fun j hj => by
  obtain ⟨go, ga, gc, h1, h2, h3, h4⟩ := h j hj
  exact ⟨go, ga, gc, h1, Nat.lt_of_lt_of_le h2 hG.size, ((bcellB hG).1 go _ h2).trans h3, h4.below hG⟩
theorem grp_read {W : World} {B : Nat} {v : Value} {gs : List (List Int)} {cs : List Value} {Bl : Nat} (h : OrdAt W B v gs cs Bl) : ∃ va vc, v = .slice va gs.length vc ∧ GrpAt W va gs := by
  by_cases h0 : gs.length = 0
  · obtain ⟨va, vc, e⟩ : ∃ va vc, v = .slice va gs.length vc := by
      rcases h.out.2 with ⟨rfl, h1⟩ | ⟨g, cap, cur, rfl, _⟩
      · exact ⟨none, 0, by rw [h0]⟩
      · exact ⟨_, _, rfl⟩
    exact ⟨va, vc, e, fun j hj => by omega⟩
  · obtain ⟨go, ocap, ocur, hov, hbv, hlv, htv⟩ := own_some h.out (by omega)
    refine ⟨_, _, hov, fun j hj => ?_⟩
    obtain ⟨ga, gc, hcs, hig⟩ := own_ints (h.inn j hj)
    have hcl := h.len
    exact ⟨go, ga, gc, rfl, hlv, take_cell hbv htv (k := j) (by omega) (by rw [← hcs]; simp [List.getD_eq_getElem?_getD, show j < cs.length by omega]), hig⟩
theorem orQ0 (r : Ra) (p : Int) (w : World) (h : r.At w) (hq : qE r p [] = 0) : Calls Tryz.prog 21 #[.agg r.v, .int .i64 p] w fun e w' => G w w' ∧ ∃ a c, e = .returned (.tuple #[.slice a (orderL (fuOf r p none 0) []).length c, .int .i64 0]) ∧ GrpAt w' a (orderL (fuOf r p none 0) []) := by
  refine (Order_any r p w h).mono ?_
  rintro e w' ⟨hG, ⟨h1, _⟩ | ⟨_, v, cs, Bl, rfl, ho⟩⟩
  · exact absurd hq h1
  · obtain ⟨a, c, rfl, hr⟩ := grp_read ho
    exact ⟨hG, a, c, rfl, hr⟩
theorem plQ0 (r : Ra) (p : Int) (w : World) (h : r.At w) (hq : qE r p [] = 0) : Calls Tryz.prog 22 #[.agg r.v, .int .i64 p] w fun e w' => G w w' ∧ ∃ a c, e = .returned (.tuple #[.slice a (placesL (fuOf r p none 0)).length c, .int .i64 0]) ∧ IntsAt w' a (placesL (fuOf r p none 0)) := by
  refine (Places_any r p w h).mono ?_
  rintro e w' ⟨hG, ⟨h1, _⟩ | ⟨_, v, rfl, ho⟩⟩
  · exact absurd hq h1
  · obtain ⟨a, c, rfl, hr⟩ := own_ints ho
    exact ⟨hG, a, c, rfl, hr⟩
/-- what the law looks at: groups, prizes, places -/
structure TieF (AL : List Pz) (GS : List (List Int)) (PL : List Int) (wn : Nat → Nat → Int) : Prop where
  l1 : GS.length ≤ AL.length
  l2 : PL.length ≤ AL.length + 8
  l3 : AL.length ≤ 12
  ne : ∀ j, j < GS.length → 0 < (GS.getD j []).length ∧ (GS.getD j []).length ≤ 12
  any : ∀ j k, j < GS.length → k < (GS.getD j []).length → (AL.any fun x => x.bird == (GS.getD j []).getD k 0) = true
  won : ∀ j k, j < GS.length → k < (GS.getD j []).length → (pzP AL ((GS.getD j []).getD k 0)).won = wn j k
  bd : ∀ j k, j < GS.length → k < (GS.getD j []).length → 0 ≤ wn j k ∧ wn j k ≤ 1200000
  lo : ∀ j k, j < GS.length → k < (GS.getD j []).length → wn j k ≤ wn j 0 ∧ wn j 0 - 1 ≤ wn j k
  st : ∀ j k, j < GS.length → k + 1 < (GS.getD j []).length → (GS.getD j []).getD k 0 < (GS.getD j []).getD (k + 1) 0 ∧ wn j (k + 1) ≤ wn j k
  fa : (∀ i, i + 1 < PL.length → PL.getD (i + 1) 0 ≤ PL.getD i 0) → ∀ j k k', j + 1 < GS.length → k < (GS.getD j []).length → k' < (GS.getD (j + 1) []).length → wn (j + 1) k' ≤ wn j k + 1
theorem asc_get {g : List Int} (h : g.Pairwise (· < ·)) {k : Nat} (hk : k + 1 < g.length) : g.getD k 0 < g.getD (k + 1) 0 := by
  have h1 := List.pairwise_iff_getElem.1 h k (k + 1) (by omega) hk (by omega)
  rw [List.getD_eq_getElem?_getD, List.getD_eq_getElem?_getD, List.getElem?_eq_getElem (by omega), List.getElem?_eq_getElem hk]
  exact h1
theorem tie_of {r : Ra} {p : Int} (hq : qE r p [] = 0) : TieF (prizesL (fuOf r p none 0)) (orderL (fuOf r p none 0) []) (placesL (fuOf r p none 0)) (fun j k => wonAt (wonL (fuOf r p none 0) []) (((orderL (fuOf r p none 0) []).getD j []).getD k 0)) := by
  obtain ⟨hr, hin⟩ := qE_parts hq
  have hsub : ∀ x ∈ (fuOf r p none 0).rs, x ∈ r.racers := fun x hx => (runners_sub hx).1
  have hB := fu_bounds hr hin none 0
  have hpo : poolB (fuOf r p none 0).po = true := (pool_of hr hin).2
  have hu : Uniq (fuOf r p none 0).rs := runners_uniq hr p
  have hf := wonFacts_any hB hpo hu (fun x hx => racers_bd hr x (hsub x hx)) []
  generalize fuOf r p none 0 = f at *
  have hrl := hB.many
  have hmem : ∀ j k, j < (orderL f []).length → k < ((orderL f []).getD j []).length → ∃ x ∈ f.rs, x.bird = ((orderL f []).getD j []).getD k 0 := fun j k hj hk => by
    have h1 : ((orderL f []).getD j []).getD k 0 ∈ (orderL f []).flatten := by
      have e : (orderL f []).getD j [] = (orderL f [])[j] := by simp [List.getD_eq_getElem?_getD, hj]
      rw [e] at hk ⊢
      have e2 : ((orderL f [])[j]).getD k 0 = ((orderL f [])[j])[k] := by simp [List.getD_eq_getElem?_getD, hk]
      rw [e2]
      exact List.mem_flatten.2 ⟨_, List.getElem_mem hj, List.getElem_mem hk⟩
    rw [orderL_flat] at h1
    obtain ⟨x, hx, e⟩ := List.mem_map.1 h1
    exact ⟨x, (takers_mem.1 hx).1, e⟩
  have hwn : ∀ j k, j < (orderL f []).length → k < ((orderL f []).getD j []).length → wonAt (wonL f []) (((orderL f []).getD j []).getD k 0) = shareI ((wst (placesL f) (orderL f []) j).1.take (min ((orderL f []).getD j []).length (wst (placesL f) (orderL f []) j).1.length)).sum ((orderL f []).getD j []).length k := fun j k hj hk => won_grp hf hj hk
  have hnel : ∀ j, j < (orderL f []).length → 0 < ((orderL f []).getD j []).length ∧ ((orderL f []).getD j []).length ≤ 12 := fun j hj => by
    have hm : (orderL f []).getD j [] ∈ orderL f [] := by
      rw [List.getD_eq_getElem?_getD, List.getElem?_eq_getElem hj]
      exact List.getElem_mem hj
    have h1 := hf.ok.gne _ hm
    exact ⟨List.length_pos_iff.2 h1.1, h1.2⟩
  refine ⟨?_, ?_, by rw [prizesL_len]; exact hrl, hnel, fun j k hj hk => ?_, fun j k hj hk => ?_, fun j k hj hk => ?_, fun j k hj hk => ?_, fun j k hj hk => ?_, fun h j k k' hj hk hk' => ?_⟩
  · rw [prizesL_len]
    have h1 := grpTo_le (takersL f []) (takersL f []).length
    have h2 := takers_len f []
    unfold orderL
    omega
  · rw [prizesL_len]
    have hk1 := kind_tlen hpo
    unfold placesL
    split
    · rw [List.length_map]; omega
    · split
      · rename_i h2
        have h3 := nPl_bd hB hpo h2
        rw [List.length_replicate]
        omega
      · split
        · rw [List.length_singleton]; omega
        · rw [List.length_nil]; omega
  · exact (pzP_fund (hmem j k hj hk)).1
  · exact (pzP_fund (hmem j k hj hk)).2.2
  · have h1 := wonAt_nonneg hf.nonneg (((orderL f []).getD j []).getD k 0)
    have h2 := wonAt_le hf.nonneg (((orderL f []).getD j []).getD k 0)
    have h3 := hf.le
    have h4 := hf.bound
    exact ⟨h1, by omega⟩
  · show wonAt _ _ ≤ wonAt _ _ ∧ wonAt _ _ - 1 ≤ wonAt _ _
    rw [hwn j k hj hk, hwn j 0 hj (hnel j hj).1]
    exact share_mono _ _ (Nat.zero_le k)
  · have hm : (orderL f []).getD j [] ∈ orderL f [] := by
      rw [List.getD_eq_getElem?_getD, List.getElem?_eq_getElem hj]
      exact List.getElem_mem hj
    refine ⟨?_, ?_⟩
    · exact asc_get (orderL_asc f hu [] _ hm) hk
    · show wonAt _ _ ≤ wonAt _ _
      rw [hwn j (k + 1) hj hk, hwn j k hj (by omega)]
      exact (share_mono _ _ (Nat.le_succ k)).1
  · exact won_fall hf (fun x hx => ((places_bd hB hpo).2 x hx).1) (fall_pw h) hj hk hk'
end Go.Proofs.YtnkmcoljijmgpaaGreat
