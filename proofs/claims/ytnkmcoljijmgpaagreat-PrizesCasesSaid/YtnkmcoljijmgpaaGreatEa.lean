import Derived.Test.YtnkmcoljijmgpaaGreatDc
import Derived.Test.YtnkmcoljijmgpaaGreatBr
set_option linter.unusedSimpArgs false
set_option linter.unusedVariables false
namespace Go.Proofs.YtnkmcoljijmgpaaGreat
open Go.RowKit Go.Shelf Go.Sort Go.Maps
attribute [local go_sem] Oper.semAt_some
theorem wonAt_mem {ps : List (Int × Int)} (hd : ps.Pairwise fun a b => a.1 ≠ b.1) {q : Int × Int} (hq : q ∈ ps) : wonAt ps q.1 = q.2 := by
  unfold wonAt
  cases hf : ps.find? fun p => p.1 == q.1 with
  | none =>
    have := List.find?_eq_none.1 hf q hq
    simp at this
  | some p =>
    have h1 := List.find?_some hf
    have h2 := List.mem_of_find?_eq_some hf
    have h3 : p.1 = q.1 := by simpa using h1
    show p.2 = q.2
    obtain ⟨i, hi, rfl⟩ := List.mem_iff_getElem.1 h2
    obtain ⟨j, hj, rfl⟩ := List.mem_iff_getElem.1 hq
    have h4 := List.pairwise_iff_getElem.1 hd
    rcases Nat.lt_trichotomy i j with h | h | h
    · exact absurd h3 (h4 i j hi hj h)
    · subst h; rfl
    · exact absurd h3.symm (h4 j i hj hi h)
theorem wst_mem (pl : List Int) (gs : List (List Int)) (j : Nat) : ∀ n, j < n → ∀ q ∈ gWon (wst pl gs j).1 (gs.getD j []), q ∈ (wst pl gs n).2
  | 0, h => by omega
  | n + 1, h => by
    intro q hq
    show q ∈ (wst pl gs n).2 ++ gWon (wst pl gs n).1 (gs.getD n [])
    by_cases e : j = n
    · subst e
      exact List.mem_append_right _ hq
    · exact List.mem_append_left _ (wst_mem pl gs j n (by omega) q hq)
/-- what the k-th bird of the j-th group wins -/
theorem won_grp {f : Fu} {st : List Int} (h : WonFacts f st) {j k : Nat} (hj : j < (orderL f st).length) (hk : k < ((orderL f st).getD j []).length) :
    wonAt (wonL f st) (((orderL f st).getD j []).getD k 0) = shareI ((wst (placesL f) (orderL f st) j).1.take (min ((orderL f st).getD j []).length (wst (placesL f) (orderL f st) j).1.length)).sum ((orderL f st).getD j []).length k := by
  have hl : k < (gWon (wst (placesL f) (orderL f st) j).1 ((orderL f st).getD j [])).length := by rw [gWon_len]; exact hk
  have hm : (gWon (wst (placesL f) (orderL f st) j).1 ((orderL f st).getD j [])).getD k (0, 0) ∈ wonL f st := by
    refine wst_mem _ _ _ _ hj _ ?_
    generalize gWon (wst (placesL f) (orderL f st) j).1 ((orderL f st).getD j []) = W at *
    rw [List.getD_eq_getElem?_getD, List.getElem?_eq_getElem hl]
    exact List.getElem_mem hl
  rw [gWon_get _ _ hk] at hm
  exact wonAt_mem h.dist hm
theorem grpTo_asc (l : List Rc) (hp : l.Pairwise fun x y => lexL y x = false) (hu : Uniq l) (hd : ∀ i, i < l.length → (l.getD i default).day ≠ 0) : ∀ k, k ≤ l.length →
    (∀ g ∈ grpTo l k, g.Pairwise (· < ·)) ∧ (0 < k → ∃ g0 g, grpTo l k = g0 ++ [g ++ [(l.getD (k - 1) default).bird]])
  | 0, _ => ⟨fun g hg => by simp [grpTo] at hg, fun h => by omega⟩
  | k + 1, hk => by
    obtain ⟨ih1, ih2⟩ := grpTo_asc l hp hu hd k (by omega)
    unfold grpTo
    by_cases hs : sameB l k = true
    · rw [if_pos hs]
      have hk0 : 0 < k := by
        rcases Nat.eq_zero_or_pos k with h | h
        · subst h
          unfold sameB befD at hs
          simp only [if_true, decide_eq_true_eq] at hs
          exact absurd hs.1 (hd 0 (by omega))
        · exact h
      obtain ⟨g0, g, he⟩ := ih2 hk0
      rw [he, addLast_app]
      refine ⟨fun x hx => ?_, fun _ => ⟨g0, _, rfl⟩⟩
      rcases List.mem_append.1 hx with h | h
      · exact ih1 x (by rw [he]; exact List.mem_append_left _ h)
      · rw [List.mem_singleton.1 h]
        have h1 := ih1 (g ++ [(l.getD (k - 1) default).bird]) (by rw [he]; simp)
        have hlt : (l.getD (k - 1) default).bird < (l.getD k default).bird := by
          have a1 : l.getD (k - 1) default = l[k - 1] := by simp [List.getD_eq_getElem?_getD, show k - 1 < l.length by omega]
          have a2 : l.getD k default = l[k] := by simp [List.getD_eq_getElem?_getD, show k < l.length by omega]
          have b1 := List.pairwise_iff_getElem.1 hp (k - 1) k (by omega) (by omega) (by omega)
          have b2 := List.pairwise_iff_getElem.1 hu (k - 1) k (by omega) (by omega) (by omega)
          unfold sameB befD at hs
          rw [if_neg (by omega)] at hs
          simp only [decide_eq_true_eq] at hs
          rw [a1, a2] at hs ⊢
          simp only [lexL, decide_eq_false_iff_not] at b1
          omega
        rw [List.pairwise_append] at h1 ⊢
        refine ⟨List.pairwise_append.2 h1, by simp, fun a ha b hb => ?_⟩
        rw [List.mem_singleton.1 hb]
        rcases List.mem_append.1 ha with h | h
        · have := h1.2.2 a h _ (List.mem_singleton.2 rfl)
          omega
        · rw [List.mem_singleton.1 h]
          exact hlt
    · rw [if_neg hs, addLast_app]
      refine ⟨fun x hx => ?_, fun _ => ⟨_, _, rfl⟩⟩
      rcases List.mem_append.1 hx with h | h
      · exact ih1 x h
      · rw [List.mem_singleton.1 h]; simp
theorem orderL_asc (f : Fu) (hu : Uniq f.rs) (st : List Int) : ∀ g ∈ orderL f st, g.Pairwise (· < ·) :=
  (grpTo_asc (takersL f st) (tks_pw _) (takers_uniq hu st) (takers_dayD f st) _ (Nat.le_refl _)).1
theorem share_mono (A : Int) (n : Nat) {i k : Nat} (h : i ≤ k) : shareI A n k ≤ shareI A n i ∧ shareI A n i - 1 ≤ shareI A n k := by
  unfold shareI
  generalize A / (n : Int) = Y
  generalize A % (n : Int) = Z
  split <;> split <;> omega
theorem sum_ge {l : List Int} {m : Int} (h : ∀ x ∈ l, m ≤ x) : m * l.length ≤ l.sum := by
  induction l with
  | nil => simp
  | cons a l ih =>
    have h1 := h a (List.mem_cons_self ..)
    have h2 := ih (fun x hx => h x (List.mem_cons_of_mem _ hx))
    rw [List.sum_cons, List.length_cons]
    have e : m * ((l.length + 1 : Nat) : Int) = m * l.length + m := by rw [Int.natCast_add, Int.mul_add]; simp
    omega
theorem sum_le {l : List Int} {m : Int} (h : ∀ x ∈ l, x ≤ m) : l.sum ≤ m * l.length := by
  induction l with
  | nil => simp
  | cons a l ih =>
    have h1 := h a (List.mem_cons_self ..)
    have h2 := ih (fun x hx => h x (List.mem_cons_of_mem _ hx))
    rw [List.sum_cons, List.length_cons]
    have e : m * ((l.length + 1 : Nat) : Int) = m * l.length + m := by rw [Int.natCast_add, Int.mul_add]; simp
    omega
/-- falling places: who is behind wins no more, but for one cent -/
theorem fall_le {q : List Int} (hq : ∀ x ∈ q, 0 ≤ x) (hf : q.Pairwise fun a b => b ≤ a) {n n' k k' : Nat} (hn : 1 ≤ n) (hn' : 1 ≤ n') :
    shareI ((q.drop (min n q.length)).take (min n' (q.drop (min n q.length)).length)).sum n' k' ≤ shareI ((q.take (min n q.length)).sum) n k + 1 := by
  have hs0 : 0 ≤ (q.take (min n q.length)).sum := by
    have := sum_ge (l := q.take (min n q.length)) (m := 0) (fun x hx => hq x (List.mem_of_mem_take hx))
    omega
  by_cases hl : q.length ≤ n
  · have e : q.drop (min n q.length) = [] := List.drop_eq_nil_of_le (by omega)
    rw [e]
    have h0 := share_nonneg _ n k hs0
    have h1 : shareI (([] : List Int).take (min n' ([] : List Int).length)).sum n' k' = 0 := by
      unfold shareI
      simp
    rw [h1]
    omega
  · have hn2 : min n q.length = n := by omega
    rw [hn2] at hs0 ⊢
    have hnq : n < q.length := by omega
    have hpw := List.pairwise_iff_getElem.1 hf
    have ht : ∀ x ∈ q.take n, q[n] ≤ x := fun x hx => by
      obtain ⟨i, hi, rfl⟩ := List.mem_iff_getElem.1 hx
      rw [List.length_take] at hi
      rw [List.getElem_take]
      exact hpw i n (by omega) hnq (by omega)
    have hd : ∀ x ∈ q.drop n, x ≤ q[n] := fun x hx => by
      obtain ⟨i, hi, rfl⟩ := List.mem_iff_getElem.1 hx
      rw [List.length_drop] at hi
      rw [List.getElem_drop]
      rcases Nat.eq_zero_or_pos i with h | h
      · subst h
        exact Int.le_refl _
      · exact hpw n (n + i) hnq (by omega) (by omega)
    have h1 := sum_ge ht
    have h2 := sum_le (l := (q.drop n).take (min n' (q.drop n).length)) (m := q[n]) (fun x hx => hd x (List.mem_of_mem_take hx))
    have hm0 : 0 ≤ q[n] := hq _ (List.getElem_mem hnq)
    have e1 : (q.take n).length = n := by rw [List.length_take]; omega
    rw [e1] at h1
    have e2 : ((q.drop n).take (min n' (q.drop n).length)).length ≤ n' := by rw [List.length_take]; omega
    have hs1 : 0 ≤ ((q.drop n).take (min n' (q.drop n).length)).sum := by
      have := sum_ge (l := (q.drop n).take (min n' (q.drop n).length)) (m := 0) (fun x hx => hq x (List.mem_of_mem_drop (List.mem_of_mem_take hx)))
      omega
    have h3 : ((q.drop n).take (min n' (q.drop n).length)).sum ≤ q[n] * n' := by
      have : q[n] * (((q.drop n).take (min n' (q.drop n).length)).length : Int) ≤ q[n] * n' := Int.mul_le_mul_of_nonneg_left (by omega) hm0
      omega
    generalize ((q.drop n).take (min n' (q.drop n).length)).sum = S' at *
    generalize (q.take n).sum = S at *
    generalize q[n] = m at *
    have a1 : m ≤ S / n := (Int.le_ediv_iff_mul_le (by omega)).2 h1
    have a2 : shareI S' n' k' ≤ m := by
      unfold shareI
      have b1 : S' / (n' : Int) ≤ m := Int.ediv_le_of_le_mul (by omega) (by rw [Int.mul_comm] at h3; rw [Int.mul_comm]; exact h3)
      have b2 := Int.mul_ediv_add_emod S' n'
      have b3 : 0 ≤ S' % (n' : Int) := Int.emod_nonneg _ (by omega)
      by_cases hb : S' / (n' : Int) = m
      · rw [hb, Int.mul_comm] at b2
        rw [hb, if_neg (by omega)]
        omega
      · split <;> omega
    have a3 : S / n ≤ shareI S n k := by
      unfold shareI
      split <;> omega
    omega
/-- .. of two groups, one behind the other -/
theorem won_fall {f : Fu} {st : List Int} (h : WonFacts f st) (hp : ∀ x ∈ placesL f, 0 ≤ x) (hf : (placesL f).Pairwise fun a b => b ≤ a) {j k k' : Nat} (hj : j + 1 < (orderL f st).length) (hk : k < ((orderL f st).getD j []).length) (hk' : k' < ((orderL f st).getD (j + 1) []).length) :
    wonAt (wonL f st) (((orderL f st).getD (j + 1) []).getD k' 0) ≤ wonAt (wonL f st) (((orderL f st).getD j []).getD k 0) + 1 := by
  rw [won_grp h hj hk', won_grp h (by omega) hk]
  obtain ⟨d, hd⟩ := wst_sub (placesL f) (orderL f st) j
  have e : (wst (placesL f) (orderL f st) (j + 1)).1 = (wst (placesL f) (orderL f st) j).1.drop (min ((orderL f st).getD j []).length (wst (placesL f) (orderL f st) j).1.length) := rfl
  rw [e]
  refine fall_le (fun x hx => hp x ?_) ?_ (by omega) (by omega)
  · rw [hd] at hx
    exact List.mem_of_mem_drop hx
  · rw [hd]
    exact hf.sublist (List.drop_sublist _ _)
/-- falling, place by place -/
theorem fall_pw {l : List Int} (h : ∀ i, i + 1 < l.length → l.getD (i + 1) 0 ≤ l.getD i 0) : l.Pairwise fun a b => b ≤ a := by
  induction l with
  | nil => exact List.Pairwise.nil
  | cons a l ih =>
    have h2 := ih (fun i hi => by
      have := h (i + 1) (by simpa using hi)
      simpa using this)
    refine List.pairwise_cons.2 ⟨fun x hx => ?_, h2⟩
    cases l with
    | nil => simp at hx
    | cons b l =>
      have h0 : b ≤ a := by
        have := h 0 (by simp)
        simpa using this
      rcases List.mem_cons.1 hx with rfl | hx
      · exact h0
      · have := (List.pairwise_cons.1 h2).1 x hx
        omega
end Go.Proofs.YtnkmcoljijmgpaaGreat
set_option linter.unusedSimpArgs false
set_option linter.unusedVariables false
namespace Go.Proofs.YtnkmcoljijmgpaaGreat
open Go.RowKit Go.Shelf Go.Sort Go.Maps
attribute [local go_sem] Oper.semAt_some
/-- the bird b, home last of all, on the second day -/
def lateR (b m : Int) (x : Rc) : Rc := if x.bird = b then ⟨x.bird, x.owner, m, 2, x.pa, x.pc, x.pools⟩ else x
theorem lateR_bird (b m : Int) (x : Rc) : (lateR b m x).bird = x.bird := by
  unfold lateR
  split <;> rfl
theorem lateR_ne {b m : Int} {x : Rc} (h : x.bird ≠ b) : lateR b m x = x := if_neg h
theorem uniq_late {l : List Rc} (h : Uniq l) (b m : Int) : Uniq (l.map (lateR b m)) := by
  unfold Uniq
  rw [List.pairwise_map]
  refine h.imp fun {x y} hxy => ?_
  rw [lateR_bird, lateR_bird]
  exact hxy
theorem uniq_nodup {l : List Rc} (h : Uniq l) : l.Nodup := h.imp fun {x y} hxy e => hxy (by rw [e])
theorem skip0 {first : Bool} {x : Rc} : skipB first [] x = false ↔ x.day ≠ 0 ∧ (first = true → x.day = 1) := by
  have e : inL [] x.bird = false := rfl
  unfold skipB
  rw [e]
  by_cases h0 : x.day = 0 <;> by_cases h1 : x.day = 1 <;> cases first <;> simp [h0, h1]
theorem grp_pre (l : List Rc) (y : Rc) : ∀ k, k ≤ l.length → grpTo (l ++ [y]) k = grpTo l k
  | 0, _ => rfl
  | k + 1, hk => by
    have ih := grp_pre l y k (by omega)
    have a : ∀ i, i < l.length → (l ++ [y]).getD i default = l.getD i default := fun i hi => by
      rw [List.getD_eq_getElem?_getD, List.getD_eq_getElem?_getD, List.getElem?_append_left hi]
    have hs : sameB (l ++ [y]) k = sameB l k := by
      unfold sameB befD
      rw [a k (by omega), a (k - 1) (by omega)]
    unfold grpTo
    rw [hs, ih, a k (by omega)]
theorem grp_snoc {l : List Rc} {y : Rc} (hs : sameB (l ++ [y]) l.length = false) : grpTo (l ++ [y]) (l ++ [y]).length = grpTo l l.length ++ [[y.bird]] := by
  rw [List.length_append, List.length_singleton]
  have e : (l ++ [y]).getD l.length default = y := by
    rw [List.getD_eq_getElem?_getD, List.getElem?_append_right (Nat.le_refl _), Nat.sub_self]
    rfl
  conv => lhs; unfold grpTo
  rw [if_neg (by rw [hs]; decide), addLast_app, grp_pre l y _ (Nat.le_refl _), e]
  rfl
theorem wst_pre (pl : List Int) (gs : List (List Int)) (g : List Int) : ∀ j, j ≤ gs.length → wst pl (gs ++ [g]) j = wst pl gs j
  | 0, _ => rfl
  | j + 1, hj => by
    have ih := wst_pre pl gs g j (by omega)
    have e : (gs ++ [g]).getD j [] = gs.getD j [] := by
      rw [List.getD_eq_getElem?_getD, List.getD_eq_getElem?_getD, List.getElem?_append_left (by omega)]
    unfold wst
    rw [ih, e]
theorem wonAt_snoc {ps : List (Int × Int)} {b c x : Int} (h : x ≠ b) : wonAt (ps ++ [(b, c)]) x = wonAt ps x := by
  unfold wonAt
  rw [List.find?_append]
  have e : ([(b, c)] : List (Int × Int)).find? (fun p => p.1 == x) = none := by
    rw [List.find?_eq_none]
    intro p hp
    rw [List.mem_singleton.1 hp]
    simpa using fun e => h e.symm
  rw [e]
  simp
theorem wonAt_none {ps : List (Int × Int)} {b : Int} (h : ∀ p ∈ ps, p.1 ≠ b) : wonAt ps b = 0 := by
  unfold wonAt
  have e : ps.find? (fun p => p.1 == b) = none := by
    rw [List.find?_eq_none]
    intro p hp
    simpa using h p hp
  rw [e]
end Go.Proofs.YtnkmcoljijmgpaaGreat
set_option linter.unusedSimpArgs false
set_option linter.unusedVariables false
namespace Go.Proofs.YtnkmcoljijmgpaaGreat
open Go.RowKit Go.Shelf Go.Sort Go.Maps
attribute [local go_sem] Oper.semAt_some
theorem atP_owner {ps : List Pu} {x : Int} (h : (ps.any fun p => p.owner == x) = true) : (atP ps x).owner = x := by
  unfold atP
  cases hf : ps.find? fun p => p.owner == x with
  | none =>
    obtain ⟨p, hp, e⟩ := List.any_eq_true.1 h
    exact absurd e (List.find?_eq_none.1 hf p hp)
  | some p => simpa using List.find?_some hf
end Go.Proofs.YtnkmcoljijmgpaaGreat
set_option linter.unusedSimpArgs false
set_option linter.unusedVariables false
namespace Go.Proofs.YtnkmcoljijmgpaaGreat
open Go.RowKit Go.Shelf Go.Sort Go.Maps
attribute [local go_sem] Oper.semAt_some
end Go.Proofs.YtnkmcoljijmgpaaGreat
set_option linter.unusedSimpArgs false
set_option linter.unusedVariables false
namespace Go.Proofs.YtnkmcoljijmgpaaGreat
open Go.RowKit Go.Shelf Go.Sort Go.Maps
attribute [local go_sem] Oper.semAt_some
theorem racerP {np : Nat} {x y : Rc} (h : rcP x = rcP y) : racerB np x = racerB np y := by
  obtain ⟨x0, x1, x2, x3, x4, x5, x6⟩ := x
  obtain ⟨y0, y1, y2, y3, y4, y5, y6⟩ := y
  unfold rcP at h
  simp only [Prod.mk.injEq] at h
  obtain ⟨rfl, rfl, rfl, rfl, rfl⟩ := h
  rfl
theorem uniqP_rc {l l' : List Rc} (h : l.map rcP = l'.map rcP) (hu : Uniq l) : Uniq l' := by
  have a : ∀ l : List Rc, Uniq l ↔ (l.map rcP).Pairwise fun q q' => q.1 ≠ q'.1 := fun l => by
    rw [List.pairwise_map]
    rfl
  rw [a, ← h, ← a]
  exact hu
theorem runnersP {l l' : List Rc} (h : l.map rcP = l'.map rcP) (p : Int) : (srt (l.filter fun x => inL x.pools p)).map rcP = (srt (l'.filter fun x => inL x.pools p)).map rcP := by
  have a : ∀ l : List Rc, (srt (l.filter fun x => inL x.pools p)).map rcP = ((l.map rcP).filter fun q => inL q.2.2.2.2 p).mergeSort fun a b => decide (a.1 ≤ b.1) := fun l => by
    unfold srt
    rw [List.map_mergeSort (f := rcP) (r := fun x y : Rc => decide (x.bird ≤ y.bird)) (s := fun a b : Int × Int × Int × Int × List Int => decide (a.1 ≤ b.1)) (fun a _ b _ => rfl), List.filter_map]
    rfl
  rw [a, a, h]
theorem mem_P {l l' : List Rc} (h : l.map rcP = l'.map rcP) {x : Rc} (hx : x ∈ l) : ∃ y ∈ l', rcP y = rcP x := by
  have hm : rcP x ∈ l'.map rcP := by
    rw [← h]
    exact List.mem_map.2 ⟨x, hx, rfl⟩
  exact List.mem_map.1 hm
/-- a race that says the same, of other blocks -/
theorem req_copy {r o : Ra} (hr : raceB r = true) (her : o.racers.map rcP = r.racers.map rcP) (hps : o.pools.map poP = r.pools.map poP) (hpr : o.protests = r.protests) : REq r o ∧ raceB o = true := by
  obtain ⟨⟨h1, h2, h3⟩, h4, ⟨h5, h6⟩, h7, h8⟩ := (race_iff r).1 hr
  have hl : o.pools.length = r.pools.length := by
    have e := congrArg List.length hps
    simpa using e
  have hlr : o.racers.length = r.racers.length := by
    have e := congrArg List.length her
    simpa using e
  have hq : ∀ l : List Rc, l.map rcQ = (l.map rcP).map (fun q => (q.1, q.2.1, q.2.2.1, q.2.2.2.1)) := fun l => by
    rw [List.map_map]
    rfl
  refine ⟨⟨hps, hpr, fun p => ?_, fun x => ?_⟩, (race_iff o).2 ⟨⟨by rw [hl]; exact h1, by rw [hpr]; exact h2, by rw [hpr]; exact h3⟩, fun x hx => ?_, ⟨by rw [hlr]; exact h5, uniqP_rc her.symm h6⟩, fun x hx => ?_, fun k hk => ?_⟩⟩
  · rw [hq, hq]
    unfold runners
    rw [runnersP her]
  · have a : ∀ {l l' : List Rc}, l.map rcP = l'.map rcP → (l.any fun y => y.owner == x) = true → (l'.any fun y => y.owner == x) = true := fun {l l'} h hh => by
      obtain ⟨y, hy, e⟩ := List.any_eq_true.1 hh
      obtain ⟨z, hz, e2⟩ := mem_P h hy
      refine List.any_eq_true.2 ⟨z, hz, ?_⟩
      have : z.owner = y.owner := congrArg (fun q => q.2.1) e2
      rw [this]
      exact e
    rw [Bool.eq_iff_iff]
    exact ⟨a her, a her.symm⟩
  · have hm : poP x ∈ r.pools.map poP := by
      rw [← hps]
      exact List.mem_map.2 ⟨x, hx, rfl⟩
    obtain ⟨y, hy, e⟩ := List.mem_map.1 hm
    rw [← poolP e]
    exact h4 y hy
  · obtain ⟨y, hy, e⟩ := mem_P her hx
    rw [hl, ← racerP e]
    exact h7 y hy
  · rw [hpr] at hk ⊢
    obtain ⟨y, hy, e⟩ := hasB_mem.1 (h8 k hk)
    obtain ⟨z, hz, e2⟩ := mem_P her.symm hy
    have : z.bird = y.bird := congrArg Prod.fst e2
    exact hasB_mem.2 ⟨z, hz, by rw [this, e]⟩
theorem racer_day {r : Ra} (h : raceB r = true) : ∀ x ∈ r.racers, (x.day = 0 ∨ x.day = 1 ∨ x.day = 2) ∧ 0 ≤ x.rank ∧ x.rank ≤ 12 := fun x hx => by
  have h1 := racer_parts h hx
  unfold racerB at h1
  simp only [Bool.and_eq_true] at h1
  have h2 := h1.2.2.1
  unfold rankB at h2
  split at h2
  · rename_i h0
    simp only [decide_eq_true_eq] at h2
    exact ⟨.inl h0, by omega, by omega⟩
  · unfold isInB at h2
    simp only [Bool.and_eq_true, decide_eq_true_eq] at h2
    exact ⟨by omega, by omega, by omega⟩
/-- a store into one cell of a row of one's own -/
theorem row_put1 {W : World} {B c i j g : Nat} {a : Option Addr} {L : List Rc} {v : Value} {y : Rc} (h : W.ownsRow B 60 5 (.slice a L.length c) L.length (rcV L)) (ha : a = some ⟨g, 0, none⟩) (hi : i < L.length) (hj : j < 5) (hy : rcE y = (rcE (L.getD i default)).set j v) :
    (W.setCell ⟨g, i * 5 + j, none⟩ v).ownsRow B 60 5 (.slice a L.length c) L.length (rcV (L.set i y)) := by
  rcases h.2 with ⟨_, h0⟩ | ⟨g', cap, cur, he, hb, hg, h1, h2, h3, h4⟩
  · omega
  · rw [ha] at he
    injection he with e1 e2 e3
    injection e1 with e1
    injection e1 with e1 _ _
    subst e1 e3
    refine ⟨by rw [rcV_len, List.length_set], .inr ⟨g, _, _, by rw [ha], hb, Blk.set_ hg _ _, h1, h2, by rw [Array.size_setIfInBounds]; exact h3, ?_⟩⟩
    have hcs : L.length * 5 ≤ cur.size := by
      have : L.length * 5 ≤ c * 5 := Nat.mul_le_mul_right 5 h1
      omega
    apply List.ext_getElem?
    intro t
    by_cases ht : t < L.length * 5
    · rw [List.getElem?_take_of_lt ht, Array.getElem?_toList, Array.getElem?_setIfInBounds]
      have e2 := rcV_get (L.set i y) (i := t / 5) (r := t % 5) (by rw [List.length_set]; omega) (by omega)
      rw [show t / 5 * 5 + t % 5 = t by omega, getD_setR hi] at e2
      rw [e2]
      have e := rcV_get L (i := t / 5) (r := t % 5) (by omega) (by omega)
      rw [show t / 5 * 5 + t % 5 = t by omega] at e
      have h5 : (cur.toList.take (L.length * 5))[t]? = (rcV L)[t]? := by rw [h4]
      rw [List.getElem?_take_of_lt ht, Array.getElem?_toList] at h5
      by_cases hc : i * 5 + j = t
      · have q1 : t / 5 = i := by omega
        have q2 : t % 5 = j := by omega
        rw [if_pos hc, if_pos (by omega), q1, if_pos rfl, q2, hy, List.getElem?_set]
        simp [hj, rcE_len]
      · rw [if_neg hc, h5, e]
        by_cases hq : t / 5 = i
        · have q2 : ¬ j = t % 5 := by omega
          rw [if_pos hq, hq, hy, List.getElem?_set, if_neg q2]
        · rw [if_neg hq]
    · rw [List.getElem?_take_eq_none (by omega), List.getElem?_eq_none (by rw [rcV_len, List.length_set]; omega)]
end Go.Proofs.YtnkmcoljijmgpaaGreat
