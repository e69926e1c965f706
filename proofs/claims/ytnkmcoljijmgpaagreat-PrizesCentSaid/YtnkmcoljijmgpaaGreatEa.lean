import Derived.Test.YtnkmcoljijmgpaaGreatDc
import Derived.Test.YtnkmcoljijmgpaaGreatBr
set_option linter.unusedSimpArgs false
set_option linter.unusedVariables false
namespace Go.Proofs.YtnkmcoljijmgpaaGreat
open Go.RowKit Go.Shelf Go.Sort Go.Maps
attribute [local go_sem] Oper.semAt_some
theorem wonAt_mem {ps : List (Int × Int)} (hd : ps.Pairwise fun a b => a.1 ≠ b.1) {q : Int × Int} (hq : q ∈ ps) : wonAt ps q.1 = q.2 := by
  unfold wonAt
  cases hf : ps.find? fun p => p.1 == q.1 with
  | none =>
    have := List.find?_eq_none.1 hf q hq
    simp at this
  | some p =>
    have h1 := List.find?_some hf
    have h2 := List.mem_of_find?_eq_some hf
    have h3 : p.1 = q.1 := by simpa using h1
    show p.2 = q.2
    obtain ⟨i, hi, rfl⟩ := List.mem_iff_getElem.1 h2
    obtain ⟨j, hj, rfl⟩ := List.mem_iff_getElem.1 hq
    have h4 := List.pairwise_iff_getElem.1 hd
    rcases Nat.lt_trichotomy i j with h | h | h
    · exact absurd h3 (h4 i j hi hj h)
    · subst h; rfl
    · exact absurd h3.symm (h4 j i hj hi h)
theorem wst_mem (pl : List Int) (gs : List (List Int)) (j : Nat) : ∀ n, j < n → ∀ q ∈ gWon (wst pl gs j).1 (gs.getD j []), q ∈ (wst pl gs n).2
  | 0, h => by omega
  | n + 1, h => by
    intro q hq
    show q ∈ (wst pl gs n).2 ++ gWon (wst pl gs n).1 (gs.getD n [])
    by_cases e : j = n
    · subst e
      exact List.mem_append_right _ hq
    · exact List.mem_append_left _ (wst_mem pl gs j n (by omega) q hq)
/-- what the k-th bird of the j-th group wins -/
theorem won_grp {f : Fu} {st : List Int} (h : WonFacts f st) {j k : Nat} (hj : j < (orderL f st).length) (hk : k < ((orderL f st).getD j []).length) :
    wonAt (wonL f st) (((orderL f st).getD j []).getD k 0) = shareI ((wst (placesL f) (orderL f st) j).1.take (min ((orderL f st).getD j []).length (wst (placesL f) (orderL f st) j).1.length)).sum ((orderL f st).getD j []).length k := by
  have hl : k < (gWon (wst (placesL f) (orderL f st) j).1 ((orderL f st).getD j [])).length := by rw [gWon_len]; exact hk
  have hm : (gWon (wst (placesL f) (orderL f st) j).1 ((orderL f st).getD j [])).getD k (0, 0) ∈ wonL f st := by
    refine wst_mem _ _ _ _ hj _ ?_
    generalize gWon (wst (placesL f) (orderL f st) j).1 ((orderL f st).getD j []) = W at *
    rw [List.getD_eq_getElem?_getD, List.getElem?_eq_getElem hl]
    exact List.getElem_mem hl
  rw [gWon_get _ _ hk] at hm
  exact wonAt_mem h.dist hm
theorem grpTo_asc (l : List Rc) (hp : l.Pairwise fun x y => lexL y x = false) (hu : Uniq l) (hd : ∀ i, i < l.length → (l.getD i default).day ≠ 0) : ∀ k, k ≤ l.length →
    (∀ g ∈ grpTo l k, g.Pairwise (· < ·)) ∧ (0 < k → ∃ g0 g, grpTo l k = g0 ++ [g ++ [(l.getD (k - 1) default).bird]])
  | 0, _ => ⟨fun g hg => by simp [grpTo] at hg, fun h => by omega⟩
  | k + 1, hk => by
    obtain ⟨ih1, ih2⟩ := grpTo_asc l hp hu hd k (by omega)
    unfold grpTo
    by_cases hs : sameB l k = true
    · rw [if_pos hs]
      have hk0 : 0 < k := by
        rcases Nat.eq_zero_or_pos k with h | h
        · subst h
          unfold sameB befD at hs
          simp only [if_true, decide_eq_true_eq] at hs
          exact absurd hs.1 (hd 0 (by omega))
        · exact h
      obtain ⟨g0, g, he⟩ := ih2 hk0
      rw [he, addLast_app]
      refine ⟨fun x hx => ?_, fun _ => ⟨g0, _, rfl⟩⟩
      rcases List.mem_append.1 hx with h | h
      · exact ih1 x (by rw [he]; exact List.mem_append_left _ h)
      · rw [List.mem_singleton.1 h]
        have h1 := ih1 (g ++ [(l.getD (k - 1) default).bird]) (by rw [he]; simp)
        have hlt : (l.getD (k - 1) default).bird < (l.getD k default).bird := by
          have a1 : l.getD (k - 1) default = l[k - 1] := by simp [List.getD_eq_getElem?_getD, show k - 1 < l.length by omega]
          have a2 : l.getD k default = l[k] := by simp [List.getD_eq_getElem?_getD, show k < l.length by omega]
          have b1 := List.pairwise_iff_getElem.1 hp (k - 1) k (by omega) (by omega) (by omega)
          have b2 := List.pairwise_iff_getElem.1 hu (k - 1) k (by omega) (by omega) (by omega)
          unfold sameB befD at hs
          rw [if_neg (by omega)] at hs
          simp only [decide_eq_true_eq] at hs
          rw [a1, a2] at hs ⊢
          simp only [lexL, decide_eq_false_iff_not] at b1
          omega
        rw [List.pairwise_append] at h1 ⊢
        refine ⟨List.pairwise_append.2 h1, by simp, fun a ha b hb => ?_⟩
        rw [List.mem_singleton.1 hb]
        rcases List.mem_append.1 ha with h | h
        · have := h1.2.2 a h _ (List.mem_singleton.2 rfl)
          omega
        · rw [List.mem_singleton.1 h]
          exact hlt
    · rw [if_neg hs, addLast_app]
      refine ⟨fun x hx => ?_, fun _ => ⟨_, _, rfl⟩⟩
      rcases List.mem_append.1 hx with h | h
      · exact ih1 x h
      · rw [List.mem_singleton.1 h]; simp
theorem orderL_asc (f : Fu) (hu : Uniq f.rs) (st : List Int) : ∀ g ∈ orderL f st, g.Pairwise (· < ·) :=
  (grpTo_asc (takersL f st) (tks_pw _) (takers_uniq hu st) (takers_dayD f st) _ (Nat.le_refl _)).1
theorem share_mono (A : Int) (n : Nat) {i k : Nat} (h : i ≤ k) : shareI A n k ≤ shareI A n i ∧ shareI A n i - 1 ≤ shareI A n k := by
  unfold shareI
  generalize A / (n : Int) = Y
  generalize A % (n : Int) = Z
  split <;> split <;> omega
theorem sum_ge {l : List Int} {m : Int} (h : ∀ x ∈ l, m ≤ x) : m * l.length ≤ l.sum := by
  induction l with
  | nil => simp
  | cons a l ih =>
    have h1 := h a (List.mem_cons_self ..)
    have h2 := ih (fun x hx => h x (List.mem_cons_of_mem _ hx))
    rw [List.sum_cons, List.length_cons]
    have e : m * ((l.length + 1 : Nat) : Int) = m * l.length + m := by rw [Int.natCast_add, Int.mul_add]; simp
    omega
theorem sum_le {l : List Int} {m : Int} (h : ∀ x ∈ l, x ≤ m) : l.sum ≤ m * l.length := by
  induction l with
  | nil => simp
  | cons a l ih =>
    have h1 := h a (List.mem_cons_self ..)
    have h2 := ih (fun x hx => h x (List.mem_cons_of_mem _ hx))
    rw [List.sum_cons, List.length_cons]
    have e : m * ((l.length + 1 : Nat) : Int) = m * l.length + m := by rw [Int.natCast_add, Int.mul_add]; simp
    omega
/-- falling places: who is behind wins no more, but for one cent -/
theorem fall_le {q : List Int} (hq : ∀ x ∈ q, 0 ≤ x) (hf : q.Pairwise fun a b => b ≤ a) {n n' k k' : Nat} (hn : 1 ≤ n) (hn' : 1 ≤ n') :
    shareI ((q.drop (min n q.length)).take (min n' (q.drop (min n q.length)).length)).sum n' k' ≤ shareI ((q.take (min n q.length)).sum) n k + 1 := by
  have hs0 : 0 ≤ (q.take (min n q.length)).sum := by
    have := sum_ge (l := q.take (min n q.length)) (m := 0) (fun x hx => hq x (List.mem_of_mem_take hx))
    omega
  by_cases hl : q.length ≤ n
  · have e : q.drop (min n q.length) = [] := List.drop_eq_nil_of_le (by omega)
    rw [e]
    have h0 := share_nonneg _ n k hs0
    have h1 : shareI (([] : List Int).take (min n' ([] : List Int).length)).sum n' k' = 0 := by
      unfold shareI
      simp
    rw [h1]
    omega
  · have hn2 : min n q.length = n := by omega
    rw [hn2] at hs0 ⊢
    have hnq : n < q.length := by omega
    have hpw := List.pairwise_iff_getElem.1 hf
    have ht : ∀ x ∈ q.take n, q[n] ≤ x := fun x hx => by
      obtain ⟨i, hi, rfl⟩ := List.mem_iff_getElem.1 hx
      rw [List.length_take] at hi
      rw [List.getElem_take]
      exact hpw i n (by omega) hnq (by omega)
    have hd : ∀ x ∈ q.drop n, x ≤ q[n] := fun x hx => by
      obtain ⟨i, hi, rfl⟩ := List.mem_iff_getElem.1 hx
      rw [List.length_drop] at hi
      rw [List.getElem_drop]
      rcases Nat.eq_zero_or_pos i with h | h
      · subst h
        exact Int.le_refl _
      · exact hpw n (n + i) hnq (by omega) (by omega)
    have h1 := sum_ge ht
    have h2 := sum_le (l := (q.drop n).take (min n' (q.drop n).length)) (m := q[n]) (fun x hx => hd x (List.mem_of_mem_take hx))
    have hm0 : 0 ≤ q[n] := hq _ (List.getElem_mem hnq)
    have e1 : (q.take n).length = n := by rw [List.length_take]; omega
    rw [e1] at h1
    have e2 : ((q.drop n).take (min n' (q.drop n).length)).length ≤ n' := by rw [List.length_take]; omega
    have hs1 : 0 ≤ ((q.drop n).take (min n' (q.drop n).length)).sum := by
      have := sum_ge (l := (q.drop n).take (min n' (q.drop n).length)) (m := 0) (fun x hx => hq x (List.mem_of_mem_drop (List.mem_of_mem_take hx)))
      omega
    have h3 : ((q.drop n).take (min n' (q.drop n).length)).sum ≤ q[n] * n' := by
      have : q[n] * (((q.drop n).take (min n' (q.drop n).length)).length : Int) ≤ q[n] * n' := Int.mul_le_mul_of_nonneg_left (by omega) hm0
      omega
    generalize ((q.drop n).take (min n' (q.drop n).length)).sum = S' at *
    generalize (q.take n).sum = S at *
    generalize q[n] = m at *
    have a1 : m ≤ S / n := (Int.le_ediv_iff_mul_le (by omega)).2 h1
    have a2 : shareI S' n' k' ≤ m := by
      unfold shareI
      have b1 : S' / (n' : Int) ≤ m := Int.ediv_le_of_le_mul (by omega) (by rw [Int.mul_comm] at h3; rw [Int.mul_comm]; exact h3)
      have b2 := Int.mul_ediv_add_emod S' n'
      have b3 : 0 ≤ S' % (n' : Int) := Int.emod_nonneg _ (by omega)
      by_cases hb : S' / (n' : Int) = m
      · rw [hb, Int.mul_comm] at b2
        rw [hb, if_neg (by omega)]
        omega
      · split <;> omega
    have a3 : S / n ≤ shareI S n k := by
      unfold shareI
      split <;> omega
    omega
/-- .. of two groups, one behind the other -/
theorem won_fall {f : Fu} {st : List Int} (h : WonFacts f st) (hp : ∀ x ∈ placesL f, 0 ≤ x) (hf : (placesL f).Pairwise fun a b => b ≤ a) {j k k' : Nat} (hj : j + 1 < (orderL f st).length) (hk : k < ((orderL f st).getD j []).length) (hk' : k' < ((orderL f st).getD (j + 1) []).length) :
    wonAt (wonL f st) (((orderL f st).getD (j + 1) []).getD k' 0) ≤ wonAt (wonL f st) (((orderL f st).getD j []).getD k 0) + 1 := by
  rw [won_grp h hj hk', won_grp h (by omega) hk]
  obtain ⟨d, hd⟩ := wst_sub (placesL f) (orderL f st) j
  have e : (wst (placesL f) (orderL f st) (j + 1)).1 = (wst (placesL f) (orderL f st) j).1.drop (min ((orderL f st).getD j []).length (wst (placesL f) (orderL f st) j).1.length) := rfl
  rw [e]
  refine fall_le (fun x hx => hp x ?_) ?_ (by omega) (by omega)
  · rw [hd] at hx
    exact List.mem_of_mem_drop hx
  · rw [hd]
    exact hf.sublist (List.drop_sublist _ _)
/-- falling, place by place -/
theorem fall_pw {l : List Int} (h : ∀ i, i + 1 < l.length → l.getD (i + 1) 0 ≤ l.getD i 0) : l.Pairwise fun a b => b ≤ a := by
  induction l with
  | nil => exact List.Pairwise.nil
  | cons a l ih =>
    have h2 := ih (fun i hi => by
      have := h (i + 1) (by simpa using hi)
      simpa using this)
    refine List.pairwise_cons.2 ⟨fun x hx => ?_, h2⟩
    cases l with
    | nil => simp at hx
    | cons b l =>
      have h0 : b ≤ a := by
        have := h 0 (by simp)
        simpa using this
      rcases List.mem_cons.1 hx with rfl | hx
      · exact h0
      · have := (List.pairwise_cons.1 h2).1 x hx
        omega
end Go.Proofs.YtnkmcoljijmgpaaGreat
set_option linter.unusedSimpArgs false
set_option linter.unusedVariables false
namespace Go.Proofs.YtnkmcoljijmgpaaGreat
open Go.RowKit Go.Shelf Go.Sort Go.Maps
attribute [local go_sem] Oper.semAt_some
/-- the bird b, home last of all, on the second day -/
def lateR (b m : Int) (x : Rc) : Rc := if x.bird = b then ⟨x.bird, x.owner, m, 2, x.pa, x.pc, x.pools⟩ else x
theorem lateR_bird (b m : Int) (x : Rc) : (lateR b m x).bird = x.bird := by
  unfold lateR
  split <;> rfl
theorem lateR_ne {b m : Int} {x : Rc} (h : x.bird ≠ b) : lateR b m x = x := if_neg h
theorem uniq_late {l : List Rc} (h : Uniq l) (b m : Int) : Uniq (l.map (lateR b m)) := by
  unfold Uniq
  rw [List.pairwise_map]
  refine h.imp fun {x y} hxy => ?_
  rw [lateR_bird, lateR_bird]
  exact hxy
theorem uniq_nodup {l : List Rc} (h : Uniq l) : l.Nodup := h.imp fun {x y} hxy e => hxy (by rw [e])
theorem skip0 {first : Bool} {x : Rc} : skipB first [] x = false ↔ x.day ≠ 0 ∧ (first = true → x.day = 1) := by
  have e : inL [] x.bird = false := rfl
  unfold skipB
  rw [e]
  by_cases h0 : x.day = 0 <;> by_cases h1 : x.day = 1 <;> cases first <;> simp [h0, h1]
theorem late_takers {f f1 : Fu} {b m : Int} (hpo : f1.po = f.po) (hrs : f1.rs = f.rs.map (lateR b m)) (hu : Uniq f.rs) (hb : ∀ x ∈ f.rs, x.bird = b → x.day = 0) (hm : ∀ x ∈ f.rs, x.day ≤ 2 ∧ (x.day = 2 → x.rank < m)) :
    takersL f1 [] = takersL f [] ∨ ∃ y : Rc, y.bird = b ∧ y.day = 2 ∧ y.rank = m ∧ takersL f1 [] = takersL f [] ++ [y] := by
  have hnb : ∀ z ∈ takersL f [], z.bird ≠ b := fun z hz e => by
    obtain ⟨h1, h2⟩ := takers_mem.1 hz
    exact (skip0.1 h2).1 (hb z h1 e)
  by_cases hx : ∃ x0 ∈ f.rs, x0.bird = b ∧ f.po.first = false
  · obtain ⟨x0, hx0, hxb, hfi⟩ := hx
    refine .inr ⟨lateR b m x0, by rw [lateR_bird]; exact hxb, by unfold lateR; rw [if_pos hxb], by unfold lateR; rw [if_pos hxb], ?_⟩
    have hyb : (lateR b m x0).bird = b := by rw [lateR_bird]; exact hxb
    have hyd : (lateR b m x0).day = 2 := by unfold lateR; rw [if_pos hxb]
    have hyr : (lateR b m x0).rank = m := by unfold lateR; rw [if_pos hxb]
    have hU : Uniq (takersL f [] ++ [lateR b m x0]) := by
      unfold Uniq
      rw [List.pairwise_append]
      refine ⟨takers_uniq hu [], by simp, fun z hz y hy => ?_⟩
      rw [List.mem_singleton.1 hy, hyb]
      exact hnb z hz
    have hU2 : Uniq ((f.rs.map (lateR b m)).filter fun x => !skipB f.po.first [] x) := (uniq_late hu b m).filter _
    have hP : (takersL f [] ++ [lateR b m x0]).Perm ((f.rs.map (lateR b m)).filter fun x => !skipB f.po.first [] x) := by
      refine (List.perm_ext_iff_of_nodup (uniq_nodup hU) (uniq_nodup hU2)).2 fun z => ?_
      rw [List.mem_append, List.mem_singleton, List.mem_filter, List.mem_map]
      constructor
      · rintro (h | rfl)
        · obtain ⟨h1, h2⟩ := takers_mem.1 h
          exact ⟨⟨z, h1, lateR_ne (hnb z h)⟩, by rw [h2]; rfl⟩
        · refine ⟨⟨x0, hx0, rfl⟩, ?_⟩
          rw [(skip0 (first := f.po.first)).2 ⟨by omega, fun h => by rw [hfi] at h; cases h⟩]
          rfl
      · rintro ⟨⟨x, h1, rfl⟩, h2⟩
        by_cases e : x.bird = b
        · right
          rw [uniq_eq hu h1 hx0 (by rw [e, hxb])]
        · left
          rw [lateR_ne e] at h2 ⊢
          exact takers_mem.2 ⟨h1, by simpa using h2⟩
    unfold takersL at hP hU ⊢
    rw [hpo, hrs]
    refine (tks_unique hU2 hP ?_).symm
    rw [List.pairwise_append]
    refine ⟨tks_pw _, by simp, fun z hz y hy => ?_⟩
    rw [List.mem_singleton.1 hy]
    have hz2 : z ∈ takersL f [] := hz
    obtain ⟨h1, h2⟩ := takers_mem.1 hz2
    have h3 := hm z h1
    simp only [lexL, decide_eq_false_iff_not]
    omega
  · left
    unfold takersL
    rw [hpo, hrs, List.filter_map]
    have e1 : f.rs.filter ((fun x => !skipB f.po.first [] x) ∘ lateR b m) = f.rs.filter fun x => !skipB f.po.first [] x := by
      refine List.filter_congr fun x hxm => ?_
      show (!skipB f.po.first [] (lateR b m x)) = !skipB f.po.first [] x
      by_cases e : x.bird = b
      · have hfi : f.po.first = true := by
          cases hc : f.po.first
          · exact absurd ⟨x, hxm, e, hc⟩ hx
          · rfl
        have d0 := hb x hxm e
        have d2 : (lateR b m x).day = 2 := by unfold lateR; rw [if_pos e]
        have s1 : skipB f.po.first [] x = true := by
          rw [← Bool.not_eq_false, skip0]
          exact fun h => h.1 d0
        have s2 : skipB f.po.first [] (lateR b m x) = true := by
          rw [← Bool.not_eq_false, skip0]
          intro h
          have := h.2 hfi
          omega
        rw [s1, s2]
      · rw [lateR_ne e]
    rw [e1]
    have e2 : (f.rs.filter fun x => !skipB f.po.first [] x).map (lateR b m) = f.rs.filter fun x => !skipB f.po.first [] x := by
      conv => rhs; rw [← List.map_id (f.rs.filter fun x => !skipB f.po.first [] x)]
      refine List.map_congr_left fun x hxm => ?_
      obtain ⟨h1, h2⟩ := List.mem_filter.1 hxm
      exact lateR_ne fun e => (skip0.1 (by simpa using h2)).1 (hb x h1 e)
    rw [e2]
theorem grp_pre (l : List Rc) (y : Rc) : ∀ k, k ≤ l.length → grpTo (l ++ [y]) k = grpTo l k
  | 0, _ => rfl
  | k + 1, hk => by
    have ih := grp_pre l y k (by omega)
    have a : ∀ i, i < l.length → (l ++ [y]).getD i default = l.getD i default := fun i hi => by
      rw [List.getD_eq_getElem?_getD, List.getD_eq_getElem?_getD, List.getElem?_append_left hi]
    have hs : sameB (l ++ [y]) k = sameB l k := by
      unfold sameB befD
      rw [a k (by omega), a (k - 1) (by omega)]
    unfold grpTo
    rw [hs, ih, a k (by omega)]
theorem grp_snoc {l : List Rc} {y : Rc} (hs : sameB (l ++ [y]) l.length = false) : grpTo (l ++ [y]) (l ++ [y]).length = grpTo l l.length ++ [[y.bird]] := by
  rw [List.length_append, List.length_singleton]
  have e : (l ++ [y]).getD l.length default = y := by
    rw [List.getD_eq_getElem?_getD, List.getElem?_append_right (Nat.le_refl _), Nat.sub_self]
    rfl
  conv => lhs; unfold grpTo
  rw [if_neg (by rw [hs]; decide), addLast_app, grp_pre l y _ (Nat.le_refl _), e]
  rfl
theorem wst_pre (pl : List Int) (gs : List (List Int)) (g : List Int) : ∀ j, j ≤ gs.length → wst pl (gs ++ [g]) j = wst pl gs j
  | 0, _ => rfl
  | j + 1, hj => by
    have ih := wst_pre pl gs g j (by omega)
    have e : (gs ++ [g]).getD j [] = gs.getD j [] := by
      rw [List.getD_eq_getElem?_getD, List.getD_eq_getElem?_getD, List.getElem?_append_left (by omega)]
    unfold wst
    rw [ih, e]
theorem wonAt_snoc {ps : List (Int × Int)} {b c x : Int} (h : x ≠ b) : wonAt (ps ++ [(b, c)]) x = wonAt ps x := by
  unfold wonAt
  rw [List.find?_append]
  have e : ([(b, c)] : List (Int × Int)).find? (fun p => p.1 == x) = none := by
    rw [List.find?_eq_none]
    intro p hp
    rw [List.mem_singleton.1 hp]
    simpa using fun e => h e.symm
  rw [e]
  simp
theorem wonAt_none {ps : List (Int × Int)} {b : Int} (h : ∀ p ∈ ps, p.1 ≠ b) : wonAt ps b = 0 := by
  unfold wonAt
  have e : ps.find? (fun p => p.1 == b) = none := by
    rw [List.find?_eq_none]
    intro p hp
    simpa using h p hp
  rw [e]
theorem late_places {f f1 : Fu} {b m : Int} (hpo : f1.po = f.po) (hrs : f1.rs = f.rs.map (lateR b m)) : placesL f1 = placesL f := by
  have hl : f1.rs.length = f.rs.length := by rw [hrs, List.length_map]
  unfold placesL nPl lefI kepI totI
  rw [hpo, hl]
theorem late_won {f f1 : Fu} {b m : Int} (hpo : f1.po = f.po) (hrs : f1.rs = f.rs.map (lateR b m)) (hu : Uniq f.rs) (hb : ∀ x ∈ f.rs, x.bird = b → x.day = 0) (hm : ∀ x ∈ f.rs, x.day ≤ 2 ∧ (x.day = 2 → x.rank < m)) (hk : (wonL f []).map Prod.fst = (orderL f []).flatten) :
    (∀ x, x ≠ b → wonAt (wonL f1 []) x = wonAt (wonL f []) x) ∧ wonAt (wonL f []) b = 0 := by
  have hnb : ∀ z ∈ takersL f [], z.bird ≠ b := fun z hz e => by
    obtain ⟨h1, h2⟩ := takers_mem.1 hz
    exact (skip0.1 h2).1 (hb z h1 e)
  refine ⟨fun x hx => ?_, wonAt_none fun p hp e => ?_⟩
  · have hpl := late_places (f := f) (f1 := f1) hpo hrs
    rcases late_takers hpo hrs hu hb hm with h | ⟨y, y1, y2, y3, h⟩
    · have ho : orderL f1 [] = orderL f [] := by
        unfold orderL
        rw [h]
      unfold wonL
      rw [ho, hpl]
    · have ho : orderL f1 [] = orderL f [] ++ [[b]] := by
        unfold orderL
        rw [h, grp_snoc, y1]
        unfold sameB befD
        rw [decide_eq_false_iff_not]
        have e : (takersL f [] ++ [y]).getD (takersL f []).length default = y := by
          rw [List.getD_eq_getElem?_getD, List.getElem?_append_right (Nat.le_refl _), Nat.sub_self]
          rfl
        rw [e]
        split
        · rw [y2]
          simp
        · rename_i h0
          have e2 : (takersL f [] ++ [y]).getD ((takersL f []).length - 1) default ∈ takersL f [] := by
            rw [List.getD_eq_getElem?_getD, List.getElem?_append_left (by omega), List.getElem?_eq_getElem (by omega)]
            exact List.getElem_mem _
          have h3 := hm _ (takers_mem.1 e2).1
          generalize (takersL f [] ++ [y]).getD ((takersL f []).length - 1) default = z at *
          rw [y2, y3]
          dsimp only
          omega
      unfold wonL
      rw [ho, hpl, List.length_append, List.length_singleton]
      have e : wst (placesL f) (orderL f [] ++ [[b]]) ((orderL f []).length + 1) = ((wst (placesL f) (orderL f [] ++ [[b]]) (orderL f []).length).1.drop (min ((orderL f [] ++ [[b]]).getD (orderL f []).length []).length (wst (placesL f) (orderL f [] ++ [[b]]) (orderL f []).length).1.length), (wst (placesL f) (orderL f [] ++ [[b]]) (orderL f []).length).2 ++ gWon (wst (placesL f) (orderL f [] ++ [[b]]) (orderL f []).length).1 ((orderL f [] ++ [[b]]).getD (orderL f []).length [])) := rfl
      rw [e, wst_pre _ _ _ _ (Nat.le_refl _)]
      have e3 : (orderL f [] ++ [[b]]).getD (orderL f []).length [] = [b] := by
        rw [List.getD_eq_getElem?_getD, List.getElem?_append_right (Nat.le_refl _), Nat.sub_self]
        rfl
      rw [e3]
      exact wonAt_snoc hx
  · have h1 : p.1 ∈ (wonL f []).map Prod.fst := List.mem_map.2 ⟨p, hp, rfl⟩
    rw [hk, orderL_flat] at h1
    obtain ⟨z, hz, e2⟩ := List.mem_map.1 h1
    exact hnb z hz (by rw [e2, e])
theorem late_prizes {f f1 : Fu} {b m : Int} (hpo : f1.po = f.po) (hrs : f1.rs = f.rs.map (lateR b m)) (hu : Uniq f.rs) (hb : ∀ x ∈ f.rs, x.bird = b → x.day = 0) (hm : ∀ x ∈ f.rs, x.day ≤ 2 ∧ (x.day = 2 → x.rank < m)) (hk : (wonL f []).map Prod.fst = (orderL f []).flatten) (hnn : ∀ q ∈ wonL f1 [], 0 ≤ q.2) :
    (prizesL f1).length = (prizesL f).length ∧ ∀ i, i < (prizesL f).length → ((prizesL f).getD i default).bird = ((prizesL f1).getD i default).bird ∧ (((prizesL f).getD i default).bird ≠ b → ((prizesL f).getD i default).won = ((prizesL f1).getD i default).won) ∧ (((prizesL f).getD i default).bird = b → ((prizesL f).getD i default).won = 0 ∧ 0 ≤ ((prizesL f1).getD i default).won) := by
  have hl : f1.rs.length = f.rs.length := by rw [hrs, List.length_map]
  refine ⟨by rw [prizesL_len, prizesL_len, hl], fun i hi => ?_⟩
  rw [prizesL_len] at hi
  have e1 : (prizesL f).getD i default = ⟨(f.rs.getD i default).bird, wonAt (wonL f []) (f.rs.getD i default).bird, shareI (resI f []) f.rs.length i⟩ := by
    unfold prizesL
    rw [List.getD_eq_getElem?_getD, List.getElem?_map, List.getElem?_range hi]
    rfl
  have e2 : (prizesL f1).getD i default = ⟨(f1.rs.getD i default).bird, wonAt (wonL f1 []) (f1.rs.getD i default).bird, shareI (resI f1 []) f1.rs.length i⟩ := by
    unfold prizesL
    rw [List.getD_eq_getElem?_getD, List.getElem?_map, List.getElem?_range (by omega)]
    rfl
  have e3 : (f1.rs.getD i default).bird = (f.rs.getD i default).bird := by
    rw [hrs, List.getD_eq_getElem?_getD, List.getElem?_map, List.getElem?_eq_getElem hi, List.getD_eq_getElem?_getD, List.getElem?_eq_getElem hi]
    exact lateR_bird b m _
  obtain ⟨w1, w2⟩ := late_won hpo hrs hu hb hm hk
  rw [e1, e2, e3]
  dsimp only
  refine ⟨rfl, fun h => (w1 _ h).symm, fun h => ⟨by rw [h]; exact w2, ?_⟩⟩
  unfold wonAt
  cases hf : (wonL f1 []).find? fun p => p.1 == (f.rs.getD i default).bird with
  | none => exact Int.le_refl _
  | some q => exact hnn q (List.mem_of_find?_eq_some hf)
end Go.Proofs.YtnkmcoljijmgpaaGreat
set_option linter.unusedSimpArgs false
set_option linter.unusedVariables false
namespace Go.Proofs.YtnkmcoljijmgpaaGreat
open Go.RowKit Go.Shelf Go.Sort Go.Maps
attribute [local go_sem] Oper.semAt_some
/-- what birds win together, if they are all whose pairs there are -/
theorem wonAt_sum : ∀ (bs : List Int) (ps : List (Int × Int)), bs.Nodup → (ps.Pairwise fun a b => a.1 ≠ b.1) → (∀ p ∈ ps, p.1 ∈ bs) → (bs.map (wonAt ps)).sum = sndS ps
  | [], ps, _, _, h => by
    cases ps with
    | nil => rfl
    | cons p ps => exact absurd (h p (List.mem_cons_self ..)) (by simp)
  | b :: bs, ps, hn, hd, h => by
    rw [List.nodup_cons] at hn
    rw [List.map_cons, List.sum_cons]
    by_cases hb : ∃ q ∈ ps, q.1 = b
    · obtain ⟨q, hq, rfl⟩ := hb
      rw [wonAt_mem hd hq, filter_sum hd hq]
      have ih := wonAt_sum bs (ps.filter fun p => p.1 != q.1) hn.2 (hd.sublist List.filter_sublist) (fun p hp => by
        obtain ⟨h1, h2⟩ := List.mem_filter.1 hp
        rcases List.mem_cons.1 (h p h1) with e | e
        · simp [e] at h2
        · exact e)
      have e : bs.map (wonAt ps) = bs.map (wonAt (ps.filter fun p => p.1 != q.1)) := List.map_congr_left fun x hx => by
        have hne : x ≠ q.1 := fun e => hn.1 (e ▸ hx)
        unfold wonAt
        rw [List.find?_filter]
        have e2 : (fun p : Int × Int => p.1 == x) = fun p => decide ((p.1 != q.1) = true ∧ (p.1 == x) = true) := funext fun p => by
          by_cases e : p.1 = x
          · subst e; simp [hne]
          · simp [e]
        rw [e2]
      rw [e, ih]
    · have h0 : wonAt ps b = 0 := wonAt_none fun p hp e => hb ⟨p, hp, e⟩
      rw [h0, wonAt_sum bs ps hn.2 hd (fun p hp => by
        rcases List.mem_cons.1 (h p hp) with e | e
        · exact absurd ⟨p, hp, e⟩ hb
        · exact e)]
      omega
theorem prizesL_won (f : Fu) : (prizesL f).map Pz.won = (f.rs.map Rc.bird).map (wonAt (wonL f [])) := by
  apply List.ext_getElem?
  intro i
  unfold prizesL
  by_cases h : i < f.rs.length <;> simp [h, List.getD_eq_getElem?_getD]
theorem prizesL_back (f : Fu) : (prizesL f).map Pz.back = (List.range f.rs.length).map fun i => shareI (resI f []) f.rs.length i := by
  unfold prizesL
  rw [List.map_map]
  rfl
theorem cent_won {f : Fu} (h : WonFacts f []) (hu : Uniq f.rs) : ((prizesL f).map Pz.won).sum = sndS (wonL f []) := by
  rw [prizesL_won]
  refine wonAt_sum _ _ ?_ h.dist fun p hp => ?_
  · unfold List.Nodup
    rw [List.pairwise_map]
    exact hu
  · have h1 : p.1 ∈ (wonL f []).map Prod.fst := List.mem_map.2 ⟨p, hp, rfl⟩
    rw [h.keys, orderL_flat] at h1
    obtain ⟨z, hz, e⟩ := List.mem_map.1 h1
    exact List.mem_map.2 ⟨z, (takers_mem.1 hz).1, e⟩
theorem cent_back {f : Fu} (h : WonFacts f []) : ((prizesL f).map Pz.back).sum = resI f [] := by
  rw [prizesL_back]
  have h1 := h.le
  have h2 := h.pos
  by_cases h0 : f.rs.length = 0
  · rw [h0]
    have e : lefI f = 0 := by
      unfold lefI kepI totI
      rw [h0]
      simp
    unfold resI
    simp
    omega
  · exact share_sum _ _ (by unfold resI; omega) (by omega)
def sumF (F : Pu → Int) (ps : List Pu) : Int := (ps.map F).sum
theorem sumF_upd (F : Pu → Int) (q : Pu) : ∀ ps : List Pu, UniqP ps → (∃ p ∈ ps, p.owner = q.owner) → sumF F (ps.map fun p => if p.owner = q.owner then q else p) = sumF F ps - F (atP ps q.owner) + F q
  | [], _, h => by obtain ⟨p, hp, _⟩ := h; simp at hp
  | a :: l, hu, h => by
    unfold UniqP at hu
    rw [List.pairwise_cons] at hu
    unfold sumF
    rw [List.map_cons, List.map_cons, List.sum_cons, List.map_cons, List.sum_cons]
    by_cases e : a.owner = q.owner
    · have e1 : l.map (fun p => if p.owner = q.owner then q else p) = l := by
        conv => rhs; rw [← List.map_id l]
        refine List.map_congr_left fun x hx => ?_
        have := hu.1 x hx
        rw [if_neg (fun e2 => this (by rw [e, e2]))]
        rfl
      have e2 : atP (a :: l) q.owner = a := by
        unfold atP
        rw [List.find?_cons_of_pos (by simpa using e)]
      rw [e1, e2, if_pos e]
      omega
    · have e2 : atP (a :: l) q.owner = atP l q.owner := by
        unfold atP
        rw [List.find?_cons_of_neg (by simpa using e)]
      have ih := sumF_upd F q l hu.2 (by
        obtain ⟨p, hp, hq⟩ := h
        rcases List.mem_cons.1 hp with rfl | hp
        · exact absurd hq e
        · exact ⟨p, hp, hq⟩)
      unfold sumF at ih
      rw [e2, if_neg e, ih]
      omega
theorem sumF_put {F : Pu → Int} (hF : F ⟨0, 0, 0⟩ = 0) {ps : List Pu} (hu : UniqP ps) (q : Pu) : sumF F (putP ps q) = sumF F ps - F (atP ps q.owner) + F q := by
  unfold putP
  split
  · rename_i h
    refine sumF_upd F q ps hu ?_
    obtain ⟨p, hp, e⟩ := List.any_eq_true.1 h
    exact ⟨p, hp, by simpa using e⟩
  · rename_i h
    have e : atP ps q.owner = ⟨0, 0, 0⟩ := by
      unfold atP
      cases hf : ps.find? fun p => p.owner == q.owner with
      | none => rfl
      | some p => exact absurd (List.any_eq_true.2 ⟨p, List.mem_of_find?_eq_some hf, List.find?_some hf⟩) h
    rw [e, hF]
    unfold sumF
    rw [List.map_append, List.sum_append]
    simp
theorem atP_owner {ps : List Pu} {x : Int} (h : (ps.any fun p => p.owner == x) = true) : (atP ps x).owner = x := by
  unfold atP
  cases hf : ps.find? fun p => p.owner == x with
  | none =>
    obtain ⟨p, hp, e⟩ := List.any_eq_true.1 h
    exact absurd e (List.find?_eq_none.1 hf p hp)
  | some p => simpa using List.find?_some hf
theorem putP_len_in {ps : List Pu} {q : Pu} (h : (ps.any fun p => p.owner == q.owner) = true) : (putP ps q).length = ps.length := by
  unfold putP
  rw [if_pos h, List.length_map]
theorem pu0_facts (l : List Rc) : ∀ k, k ≤ l.length → UniqP (pu0 l k) ∧ (∀ i, i < k → ((pu0 l k).any fun p => p.owner == (l.getD i default).owner) = true) ∧ sumF Pu.staked (pu0 l k) = 0 ∧ sumF Pu.paid (pu0 l k) = 0 ∧ (∀ p ∈ pu0 l k, p.staked = 0 ∧ p.paid = 0) ∧ (pu0 l k).length ≤ k
  | 0, _ => ⟨List.Pairwise.nil, fun i h => by omega, rfl, rfl, fun p hp => by simp [pu0] at hp, Nat.le_refl _⟩
  | k + 1, hk => by
    obtain ⟨h1, h2, h3, h4, h5, h6⟩ := pu0_facts l k (by omega)
    have hz : ∀ x, (atP (pu0 l k) x).staked = 0 ∧ (atP (pu0 l k) x).paid = 0 := fun x => by
      unfold atP
      cases hf : (pu0 l k).find? fun p => p.owner == x with
      | none => exact ⟨rfl, rfl⟩
      | some p => exact h5 p (List.mem_of_find?_eq_some hf)
    unfold pu0
    refine ⟨putP_uniq h1 _, fun i hi => ?_, ?_, ?_, fun p hp => ?_, ?_⟩
    · rw [putP_any]
      by_cases e : i = k
      · subst e
        simp
      · rw [h2 i (by omega)]
        rfl
    · rw [sumF_put rfl h1, h3, (hz _).1]
      rfl
    · rw [sumF_put rfl h1, h4, (hz _).2]
      rfl
    · unfold putP at hp
      split at hp
      · obtain ⟨x, hx, rfl⟩ := List.mem_map.1 hp
        dsimp only
        split
        · exact ⟨rfl, rfl⟩
        · exact h5 x hx
      · rcases List.mem_append.1 hp with h | h
        · exact h5 p h
        · rw [List.mem_singleton.1 h]
          exact ⟨rfl, rfl⟩
    · unfold putP
      split
      · rw [List.length_map]; omega
      · rw [List.length_append, List.length_singleton]; omega
/-- what holds of the purses: an owner once, all owners of l, as many as at first -/
structure PuF (l : List Rc) (n : Nat) (ps : List Pu) : Prop where
  uniq : UniqP ps
  all : ∀ x ∈ l, (ps.any fun p => p.owner == x.owner) = true
  len : ps.length ≤ n
theorem puIn_facts {f : Fu} {l : List Rc} {n : Nat} {acc : List Pu} (h : PuF l n acc) (hs : ∀ x ∈ f.rs, x ∈ l) : ∀ j, j ≤ f.rs.length →
    PuF l n (puIn f acc j) ∧ sumF Pu.staked (puIn f acc j) = sumF Pu.staked acc + f.po.stake * j ∧ sumF Pu.paid (puIn f acc j) = sumF Pu.paid acc + (((prizesL f).map Pz.won).take j).sum + (((prizesL f).map Pz.back).take j).sum
  | 0, _ => ⟨h, by simp [puIn], by simp [puIn]⟩
  | j + 1, hj => by
    obtain ⟨h1, h2, h3⟩ := puIn_facts h hs j (by omega)
    have hx : f.rs.getD j default ∈ l := hs _ (by
      rw [List.getD_eq_getElem?_getD, List.getElem?_eq_getElem (by omega)]
      exact List.getElem_mem _)
    have ho := atP_owner (h1.all _ hx)
    have hpl : j < (prizesL f).length := by rw [prizesL_len]; omega
    have ew : (((prizesL f).map Pz.won).take (j + 1)).sum = (((prizesL f).map Pz.won).take j).sum + ((prizesL f).getD j default).won := by
      rw [List.take_add_one, List.sum_append, List.getElem?_map, List.getElem?_eq_getElem hpl, List.getD_eq_getElem?_getD, List.getElem?_eq_getElem hpl]
      simp
    have eb : (((prizesL f).map Pz.back).take (j + 1)).sum = (((prizesL f).map Pz.back).take j).sum + ((prizesL f).getD j default).back := by
      rw [List.take_add_one, List.sum_append, List.getElem?_map, List.getElem?_eq_getElem hpl, List.getD_eq_getElem?_getD, List.getElem?_eq_getElem hpl]
      simp
    have eo : (addP (atP (puIn f acc j) (f.rs.getD j default).owner) f.po.stake (((prizesL f).getD j default).won + ((prizesL f).getD j default).back)).owner = (f.rs.getD j default).owner := ho
    unfold puIn
    refine ⟨⟨putP_uniq h1.uniq _, fun x hx => ?_, ?_⟩, ?_, ?_⟩
    · rw [putP_any, h1.all x hx]
      rfl
    · rw [putP_len_in (by rw [eo]; exact h1.all _ hx)]
      exact h1.len
    · rw [sumF_put rfl h1.uniq, eo, h2]
      show _ - _ + ((atP (puIn f acc j) (f.rs.getD j default).owner).staked + f.po.stake) = _
      have e : f.po.stake * ((j + 1 : Nat) : Int) = f.po.stake * j + f.po.stake := by rw [Int.natCast_add, Int.mul_add]; simp
      rw [e]
      omega
    · rw [sumF_put rfl h1.uniq, eo, h3, ew, eb]
      show _ - _ + ((atP (puIn f acc j) (f.rs.getD j default).owner).paid + (((prizesL f).getD j default).won + ((prizesL f).getD j default).back)) = _
      omega
/-- sums over the first k pools -/
def sumK (F : Nat → Int) : Nat → Int
  | 0 => 0
  | k + 1 => sumK F k + F k
theorem puTo_facts {r : Ra} (hw : ∀ k, k < r.pools.length → WonFacts (fuOf r k none 0) []) (hu : ∀ k : Nat, Uniq (runners r k)) (hr : ∀ (k : Nat), ∀ x ∈ runners r k, x ∈ r.racers) : ∀ k, k ≤ r.pools.length →
    PuF r.racers r.racers.length (puTo r k) ∧ sumF Pu.staked (puTo r k) = sumK (fun i => totI (fuOf r i none 0)) k ∧ sumF Pu.paid (puTo r k) = sumK (fun i => lefI (fuOf r i none 0)) k
  | 0, _ => by
    obtain ⟨h1, h2, h3, h4, _, h6⟩ := pu0_facts r.racers _ (Nat.le_refl _)
    refine ⟨⟨h1, fun x hx => ?_, h6⟩, h3, h4⟩
    obtain ⟨i, hi, rfl⟩ := List.mem_iff_getElem.1 hx
    have := h2 i hi
    rwa [List.getD_eq_getElem?_getD, List.getElem?_eq_getElem hi] at this
  | k + 1, hk => by
    obtain ⟨h1, h2, h3⟩ := puTo_facts hw hu hr k (by omega)
    obtain ⟨a1, a2, a3⟩ := puIn_facts (f := fuOf r k none 0) h1 (hr k) _ (Nat.le_refl _)
    have hW := hw k (by omega)
    have c1 := cent_won hW (hu k)
    have c2 := cent_back hW
    rw [List.take_of_length_le (by rw [List.length_map, prizesL_len]; exact Nat.le_refl _), List.take_of_length_le (by rw [List.length_map, prizesL_len]; exact Nat.le_refl _), c1, c2] at a3
    refine ⟨a1, ?_, ?_⟩
    · show sumF Pu.staked (puIn (fuOf r k none 0) (puTo r k) (runners r k).length) = sumK _ k + totI (fuOf r k none 0)
      rw [show (runners r k).length = (fuOf r k none 0).rs.length from rfl, a2, h2]
      rfl
    · show sumF Pu.paid (puIn (fuOf r k none 0) (puTo r k) (runners r k).length) = sumK _ k + lefI (fuOf r k none 0)
      rw [show (runners r k).length = (fuOf r k none 0).rs.length from rfl, a3, h3]
      unfold resI
      omega
theorem sumF_perm (F : Pu → Int) {l l' : List Pu} (h : l.Perm l') : sumF F l = sumF F l' := by
  unfold sumF
  induction h with
  | nil => rfl
  | cons x _ ih => simp [ih]
  | swap x y l => simp; omega
  | trans _ _ h1 h2 => rw [h1, h2]
theorem sumK_sub (F H L : Nat → Int) (h : ∀ k, L k = F k - H k) : ∀ k, sumK L k = sumK F k - sumK H k
  | 0 => rfl
  | k + 1 => by
    have ih := sumK_sub F H L h k
    have := h k
    show sumK L k + L k = sumK F k + F k - (sumK H k + H k)
    omega
/-- the purses, to the last cent -/
theorem purses_cent {r : Ra} (hw : ∀ k, k < r.pools.length → WonFacts (fuOf r k none 0) []) (hu : ∀ k : Nat, Uniq (runners r k)) (hr : ∀ (k : Nat), ∀ x ∈ runners r k, x ∈ r.racers) :
    (pursesL r).length ≤ r.racers.length ∧ ((pursesL r).Pairwise fun x y => x.owner < y.owner) ∧ sumF Pu.staked (pursesL r) = sumK (fun i => totI (fuOf r i none 0)) r.pools.length ∧ sumF Pu.paid (pursesL r) = sumK (fun i => totI (fuOf r i none 0)) r.pools.length - sumK (fun i => kepI (fuOf r i none 0)) r.pools.length := by
  obtain ⟨h1, h2, h3⟩ := puTo_facts hw hu hr _ (Nat.le_refl _)
  unfold pursesL
  refine ⟨by rw [(srtP_perm _).length_eq]; exact h1.len, ?_, ?_, ?_⟩
  · have a := srtP_pw (puTo r r.pools.length)
    have b : UniqP (srtP (puTo r r.pools.length)) := uniqP_perm h1.uniq (srtP_perm _)
    exact List.Pairwise.imp₂ (fun x y h k => by omega) a b
  · rw [sumF_perm _ (srtP_perm _), h2]
  · rw [sumF_perm _ (srtP_perm _), h3, sumK_sub (fun i => totI (fuOf r i none 0)) (fun i => kepI (fuOf r i none 0)) (fun i => lefI (fuOf r i none 0)) (fun k => rfl)]
end Go.Proofs.YtnkmcoljijmgpaaGreat
set_option linter.unusedSimpArgs false
set_option linter.unusedVariables false
namespace Go.Proofs.YtnkmcoljijmgpaaGreat
open Go.RowKit Go.Shelf Go.Sort Go.Maps
attribute [local go_sem] Oper.semAt_some
theorem runners_late {r r1 : Ra} {b m : Int} (h : r1.racers = r.racers.map (lateR b m)) (p : Int) : runners r1 p = (runners r p).map (lateR b m) := by
  unfold runners srt
  rw [h, List.filter_map, List.map_mergeSort (f := lateR b m) (r := fun x y : Rc => decide (x.bird ≤ y.bird)) (s := fun x y : Rc => decide (x.bird ≤ y.bird)) (fun x _ y _ => by rw [lateR_bird, lateR_bird])]
  have e : ((fun x : Rc => inL x.pools p) ∘ lateR b m) = fun x => inL x.pools p := funext fun x => by
    show inL (lateR b m x).pools p = _
    unfold lateR
    split <;> rfl
  rw [e]
theorem late_set {l : List Rc} (hu : Uniq l) {i : Nat} (hi : i < l.length) {b m : Int} (hb : (l.getD i default).bird = b) : l.set i (lateR b m (l.getD i default)) = l.map (lateR b m) := by
  have hg : l.getD i default = l[i] := by simp [List.getD_eq_getElem?_getD, hi]
  rw [hg] at hb ⊢
  apply List.ext_getElem?
  intro j
  rw [List.getElem?_set, List.getElem?_map]
  by_cases e : i = j
  · subst e
    rw [if_pos rfl, if_pos hi, List.getElem?_eq_getElem hi]
    rfl
  · rw [if_neg e]
    by_cases hj : j < l.length
    · rw [List.getElem?_eq_getElem hj]
      have hne : l[j].bird ≠ b := by
        have h4 := List.pairwise_iff_getElem.1 hu
        rcases Nat.lt_trichotomy i j with h | h | h
        · exact fun e2 => h4 i j hi hj h (by rw [hb, e2])
        · exact absurd h e
        · exact fun e2 => h4 j i hj hi h (by rw [hb, e2])
      rw [Option.map_some, lateR_ne hne]
    · rw [List.getElem?_eq_none (by omega)]
      rfl
end Go.Proofs.YtnkmcoljijmgpaaGreat
set_option linter.unusedSimpArgs false
set_option linter.unusedVariables false
namespace Go.Proofs.YtnkmcoljijmgpaaGreat
open Go.RowKit Go.Shelf Go.Sort Go.Maps
attribute [local go_sem] Oper.semAt_some
theorem racerP {np : Nat} {x y : Rc} (h : rcP x = rcP y) : racerB np x = racerB np y := by
  obtain ⟨x0, x1, x2, x3, x4, x5, x6⟩ := x
  obtain ⟨y0, y1, y2, y3, y4, y5, y6⟩ := y
  unfold rcP at h
  simp only [Prod.mk.injEq] at h
  obtain ⟨rfl, rfl, rfl, rfl, rfl⟩ := h
  rfl
theorem uniqP_rc {l l' : List Rc} (h : l.map rcP = l'.map rcP) (hu : Uniq l) : Uniq l' := by
  have a : ∀ l : List Rc, Uniq l ↔ (l.map rcP).Pairwise fun q q' => q.1 ≠ q'.1 := fun l => by
    rw [List.pairwise_map]
    rfl
  rw [a, ← h, ← a]
  exact hu
theorem runnersP {l l' : List Rc} (h : l.map rcP = l'.map rcP) (p : Int) : (srt (l.filter fun x => inL x.pools p)).map rcP = (srt (l'.filter fun x => inL x.pools p)).map rcP := by
  have a : ∀ l : List Rc, (srt (l.filter fun x => inL x.pools p)).map rcP = ((l.map rcP).filter fun q => inL q.2.2.2.2 p).mergeSort fun a b => decide (a.1 ≤ b.1) := fun l => by
    unfold srt
    rw [List.map_mergeSort (f := rcP) (r := fun x y : Rc => decide (x.bird ≤ y.bird)) (s := fun a b : Int × Int × Int × Int × List Int => decide (a.1 ≤ b.1)) (fun a _ b _ => rfl), List.filter_map]
    rfl
  rw [a, a, h]
theorem mem_P {l l' : List Rc} (h : l.map rcP = l'.map rcP) {x : Rc} (hx : x ∈ l) : ∃ y ∈ l', rcP y = rcP x := by
  have hm : rcP x ∈ l'.map rcP := by
    rw [← h]
    exact List.mem_map.2 ⟨x, hx, rfl⟩
  exact List.mem_map.1 hm
/-- a race that says the same, of other blocks -/
theorem req_copy {r o : Ra} (hr : raceB r = true) (her : o.racers.map rcP = r.racers.map rcP) (hps : o.pools.map poP = r.pools.map poP) (hpr : o.protests = r.protests) : REq r o ∧ raceB o = true := by
  obtain ⟨⟨h1, h2, h3⟩, h4, ⟨h5, h6⟩, h7, h8⟩ := (race_iff r).1 hr
  have hl : o.pools.length = r.pools.length := by
    have e := congrArg List.length hps
    simpa using e
  have hlr : o.racers.length = r.racers.length := by
    have e := congrArg List.length her
    simpa using e
  have hq : ∀ l : List Rc, l.map rcQ = (l.map rcP).map (fun q => (q.1, q.2.1, q.2.2.1, q.2.2.2.1)) := fun l => by
    rw [List.map_map]
    rfl
  refine ⟨⟨hps, hpr, fun p => ?_, fun x => ?_⟩, (race_iff o).2 ⟨⟨by rw [hl]; exact h1, by rw [hpr]; exact h2, by rw [hpr]; exact h3⟩, fun x hx => ?_, ⟨by rw [hlr]; exact h5, uniqP_rc her.symm h6⟩, fun x hx => ?_, fun k hk => ?_⟩⟩
  · rw [hq, hq]
    unfold runners
    rw [runnersP her]
  · have a : ∀ {l l' : List Rc}, l.map rcP = l'.map rcP → (l.any fun y => y.owner == x) = true → (l'.any fun y => y.owner == x) = true := fun {l l'} h hh => by
      obtain ⟨y, hy, e⟩ := List.any_eq_true.1 hh
      obtain ⟨z, hz, e2⟩ := mem_P h hy
      refine List.any_eq_true.2 ⟨z, hz, ?_⟩
      have : z.owner = y.owner := congrArg (fun q => q.2.1) e2
      rw [this]
      exact e
    rw [Bool.eq_iff_iff]
    exact ⟨a her, a her.symm⟩
  · have hm : poP x ∈ r.pools.map poP := by
      rw [← hps]
      exact List.mem_map.2 ⟨x, hx, rfl⟩
    obtain ⟨y, hy, e⟩ := List.mem_map.1 hm
    rw [← poolP e]
    exact h4 y hy
  · obtain ⟨y, hy, e⟩ := mem_P her hx
    rw [hl, ← racerP e]
    exact h7 y hy
  · rw [hpr] at hk ⊢
    obtain ⟨y, hy, e⟩ := hasB_mem.1 (h8 k hk)
    obtain ⟨z, hz, e2⟩ := mem_P her.symm hy
    have : z.bird = y.bird := congrArg Prod.fst e2
    exact hasB_mem.2 ⟨z, hz, by rw [this, e]⟩
/-- the race with the bird b home last of all -/
theorem race_late {o o1 : Ra} (ho : raceB o = true) {b m : Int} (hr : o1.racers = o.racers.map (lateR b m)) (hp : o1.pools = o.pools) (ht : o1.protests = o.protests) (h1 : 1 ≤ m) (h2 : m ≤ 12) : raceB o1 = true := by
  obtain ⟨⟨a1, a2, a3⟩, a4, ⟨a5, a6⟩, a7, a8⟩ := (race_iff o).1 ho
  refine (race_iff o1).2 ⟨⟨by rw [hp]; exact a1, by rw [ht]; exact a2, by rw [ht]; exact a3⟩, by rw [hp]; exact a4, ⟨by rw [hr, List.length_map]; exact a5, by rw [hr]; exact uniq_late a6 b m⟩, fun x hx => ?_, fun k hk => ?_⟩
  · rw [hr] at hx
    obtain ⟨y, hy, rfl⟩ := List.mem_map.1 hx
    have h7 := a7 y hy
    rw [hp]
    unfold lateR
    split
    · unfold racerB at h7 ⊢
      simp only [Bool.and_eq_true] at h7 ⊢
      refine ⟨h7.1, h7.2.1, ?_, h7.2.2.2⟩
      unfold rankB isInB
      rw [if_neg (by show ¬ (2 : Int) = 0; decide)]
      simp only [Bool.and_eq_true, decide_eq_true_eq]
      omega
    · exact h7
  · rw [ht] at hk ⊢
    obtain ⟨y, hy, e⟩ := hasB_mem.1 (a8 k hk)
    refine hasB_mem.2 ⟨lateR b m y, ?_, by rw [lateR_bird]; exact e⟩
    rw [hr]
    exact List.mem_map.2 ⟨y, hy, rfl⟩
theorem racer_day {r : Ra} (h : raceB r = true) : ∀ x ∈ r.racers, (x.day = 0 ∨ x.day = 1 ∨ x.day = 2) ∧ 0 ≤ x.rank ∧ x.rank ≤ 12 := fun x hx => by
  have h1 := racer_parts h hx
  unfold racerB at h1
  simp only [Bool.and_eq_true] at h1
  have h2 := h1.2.2.1
  unfold rankB at h2
  split at h2
  · rename_i h0
    simp only [decide_eq_true_eq] at h2
    exact ⟨.inl h0, by omega, by omega⟩
  · unfold isInB at h2
    simp only [Bool.and_eq_true, decide_eq_true_eq] at h2
    exact ⟨by omega, by omega, by omega⟩
/-- what PrizesLate says of two lists of prizes -/
def LateP (b : Int) (A B : List Pz) : Prop := B.length = A.length ∧ ∀ i, i < A.length → (A.getD i default).bird = (B.getD i default).bird ∧ ((A.getD i default).bird ≠ b → (A.getD i default).won = (B.getD i default).won) ∧ ((A.getD i default).bird = b → (A.getD i default).won = 0 ∧ 0 ≤ (B.getD i default).won)
theorem late_all {r o o1 : Ra} {b m p : Int} (hr : raceB r = true) (her : o.racers.map rcP = r.racers.map rcP) (hps : o.pools.map poP = r.pools.map poP) (hpr : o.protests = r.protests) (hq : qE r p [] = 0)
    (h1 : o1.racers = o.racers.map (lateR b m)) (h2 : o1.pools = o.pools) (h3 : o1.protests = o.protests) (hm1 : 1 ≤ m) (hm2 : m ≤ 12) (hb : ∀ x ∈ o.racers, x.bird = b → x.day = 0) (hm : ∀ x ∈ o.racers, x.day = 2 → x.rank < m) :
    qE o1 p [] = 0 ∧ LateP b (prizesL (fuOf r p none 0)) (prizesL (fuOf o1 p none 0)) := by
  obtain ⟨hreq, ho⟩ := req_copy hr her hps hpr
  have ho1 := race_late ho h1 h2 h3 hm1 hm2
  have hqo : qE o p [] = 0 := (qE_E hreq hr ho p []).trans hq
  have hin := (qE_parts hqo).2
  have hq1 : qE o1 p [] = 0 := by
    unfold qE
    rw [if_pos ho1, h2, if_pos hin]
    rfl
  refine ⟨hq1, ?_⟩
  rw [← prizesE hreq p]
  have hpo : (fuOf o1 p none 0).po = (fuOf o p none 0).po := by
    show poolAt o1 p = poolAt o p
    unfold poolAt
    rw [h2]
  have hsub : ∀ x ∈ (fuOf o p none 0).rs, x ∈ o.racers := fun x hx => (runners_sub hx).1
  have hf := wonFacts_any (fu_bounds ho hin none 0) (pool_of ho hin).2 (runners_uniq ho p) (fun x hx => racers_bd ho x (hsub x hx)) []
  have hin1 := (qE_parts hq1).2
  have hf1 := wonFacts_any (fu_bounds ho1 hin1 none 0) (pool_of ho1 hin1).2 (runners_uniq ho1 p) (fun x hx => racers_bd ho1 x (runners_sub hx).1) []
  exact late_prizes hpo (runners_late h1 p) (runners_uniq ho p) (fun x hx e => hb x (hsub x hx) e) (fun x hx => ⟨by have := (racer_day ho x (hsub x hx)).1; omega, fun e => hm x (hsub x hx) e⟩) hf.keys hf1.nonneg
/-- a store into one cell of a row of one's own -/
theorem row_put1 {W : World} {B c i j g : Nat} {a : Option Addr} {L : List Rc} {v : Value} {y : Rc} (h : W.ownsRow B 60 5 (.slice a L.length c) L.length (rcV L)) (ha : a = some ⟨g, 0, none⟩) (hi : i < L.length) (hj : j < 5) (hy : rcE y = (rcE (L.getD i default)).set j v) :
    (W.setCell ⟨g, i * 5 + j, none⟩ v).ownsRow B 60 5 (.slice a L.length c) L.length (rcV (L.set i y)) := by
  rcases h.2 with ⟨_, h0⟩ | ⟨g', cap, cur, he, hb, hg, h1, h2, h3, h4⟩
  · omega
  · rw [ha] at he
    injection he with e1 e2 e3
    injection e1 with e1
    injection e1 with e1 _ _
    subst e1 e3
    refine ⟨by rw [rcV_len, List.length_set], .inr ⟨g, _, _, by rw [ha], hb, Blk.set_ hg _ _, h1, h2, by rw [Array.size_setIfInBounds]; exact h3, ?_⟩⟩
    have hcs : L.length * 5 ≤ cur.size := by
      have : L.length * 5 ≤ c * 5 := Nat.mul_le_mul_right 5 h1
      omega
    apply List.ext_getElem?
    intro t
    by_cases ht : t < L.length * 5
    · rw [List.getElem?_take_of_lt ht, Array.getElem?_toList, Array.getElem?_setIfInBounds]
      have e2 := rcV_get (L.set i y) (i := t / 5) (r := t % 5) (by rw [List.length_set]; omega) (by omega)
      rw [show t / 5 * 5 + t % 5 = t by omega, getD_setR hi] at e2
      rw [e2]
      have e := rcV_get L (i := t / 5) (r := t % 5) (by omega) (by omega)
      rw [show t / 5 * 5 + t % 5 = t by omega] at e
      have h5 : (cur.toList.take (L.length * 5))[t]? = (rcV L)[t]? := by rw [h4]
      rw [List.getElem?_take_of_lt ht, Array.getElem?_toList] at h5
      by_cases hc : i * 5 + j = t
      · have q1 : t / 5 = i := by omega
        have q2 : t % 5 = j := by omega
        rw [if_pos hc, if_pos (by omega), q1, if_pos rfl, q2, hy, List.getElem?_set]
        simp [hj, rcE_len]
      · rw [if_neg hc, h5, e]
        by_cases hq : t / 5 = i
        · have q2 : ¬ j = t % 5 := by omega
          rw [if_pos hq, hq, hy, List.getElem?_set, if_neg q2]
        · rw [if_neg hq]
    · rw [List.getElem?_take_eq_none (by omega), List.getElem?_eq_none (by rw [rcV_len, List.length_set]; omega)]
/-- the copy, with other racers in its row -/
theorem cp_at2 {W : World} {B : Nat} {r o : Ra} {L : List Rc} (hAT : r.At W) (hrr : W.ownsRow B 60 5 (.slice o.ra L.length o.rc) L.length (rcV L)) (hL : ∀ y ∈ L, IntsAt W y.pa y.pools ∧ y.pools.length ≤ 1000) (hlen : L.length = r.racers.length)
    (hpr : W.ownsRow B 42 6 (.slice o.pa o.pools.length o.pc) o.pools.length (cv Po.v o.pools)) (hpt : ∀ y ∈ o.pools, W.ownsRow B 3 1 (.slice y.ta y.table.length y.tc) y.table.length (iv y.table))
    (htr : W.ownsRow B 3 1 (.slice o.ta o.protests.length o.tc) o.protests.length (iv o.protests)) (hep : o.pools.map poP = r.pools.map poP) (het : o.protests = r.protests) :
    (⟨o.ra, o.rc, L, o.pa, o.pc, o.pools, o.ta, o.tc, o.protests⟩ : Ra).At W := by
  have hl : o.pools.length = r.pools.length := by
    have e := congrArg List.length hep
    simpa using e
  have hints : ∀ {a : Option Addr} {c : Nat} {l : List Int}, W.ownsRow B 3 1 (.slice a l.length c) l.length (iv l) → IntsAt W a l := fun {a c l} ho => by
    obtain ⟨a', c', e, hI⟩ := own_ints ho
    injection e with e1 _ _
    rw [e1]
    exact hI
  have hmem : ∀ {i : Nat}, i < L.length → L.getD i default ∈ L := fun {i} hi => by
    rw [List.getD_eq_getElem?_getD, List.getElem?_eq_getElem hi]
    exact List.getElem_mem hi
  have hmemP : ∀ {i : Nat}, i < o.pools.length → o.pools.getD i default ∈ o.pools := fun {i} hi => by
    rw [List.getD_eq_getElem?_getD, List.getElem?_eq_getElem hi]
    exact List.getElem_mem hi
  refine ⟨⟨(own_fn hrr).2, fun i hi => (hL _ (hmem hi)).1⟩, ⟨?_, fun i hi => hints (hpt _ (hmemP hi))⟩, hints htr, by show L.length ≤ 1000; rw [hlen]; exact hAT.nr, own_cap hrr, own_cap htr, by show o.pools.length ≤ 1000; rw [hl]; exact hAT.np, by show o.protests.length ≤ 1000; rw [het]; exact hAT.nt, fun i hi => (hL _ (hmem hi)).2, fun i hi => ?_⟩
  · obtain ⟨a', c', e, hR⟩ := own_rowE (v := Po.v) (fun x => rfl) hpr
    injection e with e1 _ _
    show RowE Po.v 6 W o.pa o.pools
    rw [e1]
    exact hR
  · have e := congrArg (fun m => m[i]?) hep
    simp only [List.getElem?_map] at e
    have hi' : i < o.pools.length := hi
    have hi2 : i < r.pools.length := by omega
    have h2 := hAT.nb i hi2
    rw [List.getD_eq_getElem?_getD, List.getElem?_eq_getElem hi2] at h2
    show (o.pools.getD i default).table.length ≤ 1000
    rw [List.getD_eq_getElem?_getD, List.getElem?_eq_getElem hi']
    rw [List.getElem?_eq_getElem hi', List.getElem?_eq_getElem hi2] at e
    simp only [Option.map_some, Option.some.injEq] at e
    have e3 : (o.pools[i]).table = (r.pools[i]).table := congrArg (fun q => q.2.2.2.1) e
    show (o.pools[i]).table.length ≤ 1000
    rw [e3]
    exact h2
/-- the search for the bird: where it is, and the last rank of the second day, behind the first k racers -/
structure LAt (L : List Rc) (b : Int) (k : Nat) (at_ last : Int) : Prop where
  at1 : (at_ = -1 ∧ ∀ j, j < k → ¬ ((L.getD j default).bird = b ∧ (L.getD j default).day = 0)) ∨ ∃ q : Nat, at_ = q ∧ q < k ∧ (L.getD q default).bird = b ∧ (L.getD q default).day = 0
  l0 : 0 ≤ last
  l1 : last ≤ 12
  le : ∀ j, j < k → (L.getD j default).day = 2 → (L.getD j default).rank ≤ last
theorem LAt.start (L : List Rc) (b : Int) : LAt L b 0 (-1) 0 := ⟨.inl ⟨rfl, fun j h => by omega⟩, by omega, by omega, fun j h => by omega⟩
theorem LAt.hit {L : List Rc} {b at_ last : Int} {k : Nat} (h : LAt L b k at_ last) (h1 : (L.getD k default).bird = b) (h2 : (L.getD k default).day = 0) : LAt L b (k + 1) k last :=
  ⟨.inr ⟨k, rfl, by omega, h1, h2⟩, h.l0, h.l1, fun j hj e => by
    by_cases c : j = k
    · subst c; omega
    · exact h.le j (by omega) e⟩
theorem LAt.two {L : List Rc} {b at_ last : Int} {k : Nat} (h : LAt L b k at_ last) (h1 : (L.getD k default).day = 2) (h2 : (L.getD k default).rank ≤ 12) : LAt L b (k + 1) at_ (max last (L.getD k default).rank) :=
  ⟨by
    rcases h.at1 with ⟨e, h3⟩ | ⟨q, e, h3, h4⟩
    · refine .inl ⟨e, fun j hj c => ?_⟩
      by_cases c2 : j = k
      · subst c2; omega
      · exact h3 j (by omega) c
    · exact .inr ⟨q, e, by omega, h4⟩, by have := h.l0; omega, by have := h.l1; omega, fun j hj e => by
    by_cases c : j = k
    · subst c; omega
    · have := h.le j (by omega) e; omega⟩
theorem LAt.none {L : List Rc} {b at_ last : Int} {k : Nat} (h : LAt L b k at_ last) (h1 : ¬ ((L.getD k default).bird = b ∧ (L.getD k default).day = 0)) (h2 : ¬ (L.getD k default).day = 2) : LAt L b (k + 1) at_ last :=
  ⟨by
    rcases h.at1 with ⟨e, h3⟩ | ⟨q, e, h3, h4⟩
    · refine .inl ⟨e, fun j hj c => ?_⟩
      by_cases c2 : j = k
      · subst c2; exact h1 c
      · exact h3 j (by omega) c
    · exact .inr ⟨q, e, by omega, h4⟩, h.l0, h.l1, fun j hj e => by
    by_cases c : j = k
    · subst c; exact absurd e h2
    · exact h.le j (by omega) e⟩
theorem late_row {W : World} {B c g q : Nat} {a : Option Addr} {L : List Rc} {b m : Int} (h : W.ownsRow B 60 5 (.slice a L.length c) L.length (rcV L)) (ha : a = some ⟨g, 0, none⟩) (hq : q < L.length) (hu : Uniq L) (hb : (L.getD q default).bird = b) :
    ((W.setCell ⟨g, q * 5 + 2, none⟩ (.int .i64 m)).setCell ⟨g, q * 5 + 3, none⟩ (.int .i64 2)).drew.ownsRow B 60 5 (.slice a (L.map (lateR b m)).length c) (L.map (lateR b m)).length (rcV (L.map (lateR b m))) := by
  have r1 := row_put1 (y := ⟨(L.getD q default).bird, (L.getD q default).owner, m, (L.getD q default).day, (L.getD q default).pa, (L.getD q default).pc, (L.getD q default).pools⟩) (j := 2) (v := .int .i64 m) h ha hq (by decide) rfl
  obtain ⟨y1, hy1⟩ : ∃ y1 : Rc, y1 = ⟨(L.getD q default).bird, (L.getD q default).owner, m, (L.getD q default).day, (L.getD q default).pa, (L.getD q default).pc, (L.getD q default).pools⟩ := ⟨_, rfl⟩
  rw [← hy1] at r1
  have e : (L.set q y1).length = L.length := List.length_set ..
  rw [← e] at r1
  have hq2 : q < (L.set q y1).length := by omega
  have eg : (L.set q y1).getD q default = y1 := by rw [getD_setR hq, if_pos rfl]
  have r2 := row_put1 (y := lateR b m (L.getD q default)) (j := 3) (v := .int .i64 2) r1 ha hq2 (by decide) (by
    rw [eg, hy1]
    unfold lateR
    rw [if_pos hb]
    rfl)
  rw [List.set_set, late_set hu hq hb, e] at r2
  rw [List.length_map]
  exact r2
theorem late_end {r o : Ra} {b p y : Int} {q : Nat} (hr : raceB r = true) (her : o.racers.map rcP = r.racers.map rcP) (hps : o.pools.map poP = r.pools.map poP) (hpr : o.protests = r.protests) (hq0 : qE r p [] = 0)
    (hq : q < o.racers.length) (hq1 : (o.racers.getD q default).bird = b) (hq2 : (o.racers.getD q default).day = 0) (h0 : 0 ≤ y) (h11 : y < 12) (hle : ∀ j, j < o.racers.length → (o.racers.getD j default).day = 2 → (o.racers.getD j default).rank ≤ y) :
    qE ⟨o.ra, o.rc, o.racers.map (lateR b (y + 1)), o.pa, o.pc, o.pools, o.ta, o.tc, o.protests⟩ p [] = 0 ∧ LateP b (prizesL (fuOf r p none 0)) (prizesL (fuOf ⟨o.ra, o.rc, o.racers.map (lateR b (y + 1)), o.pa, o.pc, o.pools, o.ta, o.tc, o.protests⟩ p none 0)) := by
  have ho := (req_copy hr her hps hpr).2
  have hu := (uniq_of (race_parts ho)).2
  refine late_all (o := o) (m := y + 1) hr her hps hpr hq0 rfl rfl rfl (by omega) (by omega) (fun x hx e => ?_) (fun x hx e => ?_)
  · have hm : o.racers.getD q default ∈ o.racers := by
      rw [List.getD_eq_getElem?_getD, List.getElem?_eq_getElem hq]
      exact List.getElem_mem hq
    rw [uniq_eq hu hx hm (by rw [e, hq1])]
    exact hq2
  · obtain ⟨j, hj, rfl⟩ := List.mem_iff_getElem.1 hx
    have := hle j hj
    rw [List.getD_eq_getElem?_getD, List.getElem?_eq_getElem hj] at this
    have := this e
    show (o.racers[j]).rank < y + 1
    have h2 : (Option.some o.racers[j]).getD default = o.racers[j] := rfl
    rw [h2] at this
    omega
/-- the copy with the changed racer, as it lies -/
theorem late_at {W4 W5 : World} {B g : Nat} {r o : Ra} {b m : Int} (hAT : r.At W5) (hF : Fr (fun i => i = g) W4 W5) (hoa : o.ra = some ⟨g, 0, none⟩) (hrr4 : W4.ownsRow B 60 5 (.slice o.ra o.racers.length o.rc) o.racers.length (rcV o.racers))
    (hrr : W5.ownsRow B 60 5 (.slice o.ra (o.racers.map (lateR b m)).length o.rc) (o.racers.map (lateR b m)).length (rcV (o.racers.map (lateR b m))))
    (hrp : ∀ y ∈ o.racers, W4.ownsRow B 3 1 (.slice y.pa y.pools.length y.pc) y.pools.length (iv y.pools))
    (hpr : W4.ownsRow B 42 6 (.slice o.pa o.pools.length o.pc) o.pools.length (cv Po.v o.pools)) (hpt : ∀ y ∈ o.pools, W4.ownsRow B 3 1 (.slice y.ta y.table.length y.tc) y.table.length (iv y.table))
    (htr : W4.ownsRow B 3 1 (.slice o.ta o.protests.length o.tc) o.protests.length (iv o.protests)) (her : o.racers.map rcP = r.racers.map rcP) (hep : o.pools.map poP = r.pools.map poP) (het : o.protests = r.protests) :
    (⟨o.ra, o.rc, o.racers.map (lateR b m), o.pa, o.pc, o.pools, o.ta, o.tc, o.protests⟩ : Ra).At W5 := by
  have hlo : o.racers.length = r.racers.length := by
    have e := congrArg List.length her
    simpa using e
  have hne : ∀ {T z n : Nat} {v : Value} {xs : List Value}, W4.ownsRow B T z v n xs → T ≠ 60 → ∀ g', v.ownBlock = some g' → ¬ (g' = g) := fun {T z n v xs} hv hT g' hg e => by
    rcases own_own hv hrr4 hT with h | h
    · rw [hg] at h
      cases h
    · exact h (hg.trans (by rw [e, hoa]; rfl))
  refine cp_at2 (o := o) hAT hrr (fun y hy => ?_) (by rw [List.length_map, hlo]) (own_Fr hpr hF (hne hpr (by decide))) (fun y hy => own_Fr (hpt y hy) hF (hne (hpt y hy) (by decide))) (own_Fr htr hF (hne htr (by decide))) hep het
  obtain ⟨x, hx, rfl⟩ := List.mem_map.1 hy
  have e1 : (lateR b m x).pa = x.pa := by unfold lateR; split <;> rfl
  have e2 : (lateR b m x).pools = x.pools := by unfold lateR; split <;> rfl
  rw [e1, e2]
  have h1 := own_Fr (hrp x hx) hF (hne (hrp x hx) (by decide))
  obtain ⟨a', c', e, hI⟩ := own_ints h1
  injection e with e3 _ _
  refine ⟨by rw [e3]; exact hI, ?_⟩
  obtain ⟨z, hz, e4⟩ := mem_P her hx
  obtain ⟨i, hi, rfl⟩ := List.mem_iff_getElem.1 hz
  have h5 := hAT.nq i hi
  rw [List.getD_eq_getElem?_getD, List.getElem?_eq_getElem hi] at h5
  have e5 : (r.racers[i]).pools = x.pools := congrArg (fun q => q.2.2.2.2) e4
  rw [← e5]
  exact h5
end Go.Proofs.YtnkmcoljijmgpaaGreat
