import Derived.Test.YtnkmcoljijmgpaaGreatFg
import Derived.Test.YtnkmcoljijmgpaaGreatAj
import Derived.Test.YtnkmcoljijmgpaaGreatBb
set_option linter.unusedSimpArgs false
set_option linter.unusedVariables false
namespace Go.Proofs.YtnkmcoljijmgpaaGreat
open Go.RowKit Go.Shelf Go.Sort Go.Maps
attribute [local go_sem] Oper.semAt_some
/-- two operations may come up, neither changes the world: whichever is first, the rest is one -/
theorem wpAnyY_twoJ {P : Program} {ops : Array Oper} {md : Region.Mode} {Q : Exit → Act → World → Prop} {S : World → Prop} {z : Nat} {i j : Nat} {oi oj : Oper} {fuel : Nat} {l : Array Bool} {a : Act} {w : World} {vi vj : Value} (hr : Region.ready md ops l = [i, j]) (hri : Region.ready md ops (l.setIfInBounds i true) = [j]) (hrj : Region.ready md ops (l.setIfInBounds j true) = [i])
    (hi : ops[i]? = some oi) (hj : ops[j]? = some oj) (hgi : oi.guard = none) (hgj : oj.guard = none) (hl : (l.setIfInBounds j true).setIfInBounds i true = (l.setIfInBounds i true).setIfInBounds j true) (ha : (a.put oj.dst vj).put oi.dst vi = (a.put oi.dst vi).put oj.dst vj)
    (y1 : ∀ K' : Act → World → Prop, K' (a.put oi.dst vi) w → Oper.wp P oi a w K' Q) (y2 : ∀ K' : Act → World → Prop, K' ((a.put oi.dst vi).put oj.dst vj) w → Oper.wp P oj (a.put oi.dst vi) w K' Q)
    (y3 : ∀ K' : Act → World → Prop, K' (a.put oj.dst vj) w → Oper.wp P oj a w K' Q) (y4 : ∀ K' : Act → World → Prop, K' ((a.put oi.dst vi).put oj.dst vj) w → Oper.wp P oi (a.put oj.dst vj) w K' Q) (hS : S w)
    (h : wpAnyY P md ops Q S z fuel ((l.setIfInBounds i true).setIfInBounds j true) ((a.put oi.dst vi).put oj.dst vj) w) : wpAnyY P md ops Q S z (fuel + 2) l a w := by
  have wi : ∀ t, Region.wanted oi t = true := fun t => by unfold Region.wanted; rw [hgi]
  have wj : ∀ t, Region.wanted oj t = true := fun t => by unfold Region.wanted; rw [hgj]
  refine wpAnyY_twoSW (i := i) (j := j) hr hi hj (wi _) (wj _) (fun K1 hK1 => y1 K1 (hK1.out _ _ hS fun _ => ?_)) (fun K2 hK2 => y3 K2 (hK2.out _ _ hS fun _ => ?_))
  · exact wpAnyY_oneSW hri hj (wj _) (fun K3 hK3 => y2 K3 (hK3.out _ _ hS fun _ => h))
  · refine wpAnyY_oneSW hrj hi (wi _) (fun K3 hK3 => y4 K3 (hK3.out _ _ hS fun _ => ?_))
    rw [hl]
    exact h
theorem dec_src {W : World} {pa : Option Addr} {pc x : Nat} {l : List Int} (h : IntsAt W pa l) (hx : x < l.length) (hc : l.length ≤ pc) : ∃ ad, paF pa (x + 1) pc = some ad ∧ ∀ j u, (iv (l.drop (x + 1)))[j]? = some u → W.cell? (ad.add j) = some u := by
  rcases h with rfl | ⟨b, off, rfl, hb, hcell⟩
  · simp at hx
  · dsimp only [paF]
    by_cases h1 : x + 1 < pc
    · rw [if_pos h1]
      refine ⟨_, rfl, fun j u hu => ?_⟩
      unfold iv at hu
      rw [List.getElem?_map, List.getElem?_drop] at hu
      by_cases h2 : x + 1 + j < l.length
      · rw [List.getElem?_eq_getElem h2] at hu
        have e := hcell (x + 1 + j) h2
        rw [List.getD_eq_getElem?_getD, List.getElem?_eq_getElem h2] at e
        have e2 : u = .int .i64 l[x + 1 + j] := by simpa using hu.symm
        rw [e2]
        rw [add_off, show off + (x + 1) + j = off + (x + 1 + j) by omega]
        exact e
      · rw [List.getElem?_eq_none (by omega)] at hu
        cases hu
    · rw [if_neg h1]
      refine ⟨_, rfl, fun j u hu => ?_⟩
      unfold iv at hu
      rw [List.getElem?_map, List.getElem?_drop, List.getElem?_eq_none (by omega)] at hu
      cases hu
theorem pa_of {W : World} {pa : Option Addr} {pc : Nat} {l : List Int} (h : IntsAt W pa l) (hl : 0 < l.length) : PaOk pa l.length pc := by
  rcases h with rfl | ⟨b, off, rfl, _, _⟩
  · simp at hl
  · exact .inr ⟨_, _, rfl⟩
theorem iv_app (l m : List Int) : iv (l ++ m) = iv l ++ iv m := by unfold iv; rw [List.map_append]
theorem iv_one (l : List Int) : ∀ u ∈ iv l, u.oneCell' = true := fun u hu => by
  unfold iv at hu
  obtain ⟨x, _, rfl⟩ := List.mem_map.1 hu
  rfl
end Go.Proofs.YtnkmcoljijmgpaaGreat
