import Derived.Test.YtnkmcoljijmgpaaGreatFd
import Derived.Test.YtnkmcoljijmgpaaGreatEa
set_option linter.unusedSimpArgs false
set_option linter.unusedVariables false
namespace Go.Proofs.YtnkmcoljijmgpaaGreat
open Go.RowKit Go.Shelf Go.Sort Go.Maps
attribute [local go_sem] Oper.semAt_some
/-- some birds are struck -/
def outS (S : List Int) (x : Rc) : Rc := if inL S x.bird = true then ⟨x.bird, x.owner, 0, 0, x.pa, x.pc, x.pools⟩ else x
theorem outS_bird (S : List Int) (x : Rc) : (outS S x).bird = x.bird := by
  unfold outS
  split <;> rfl
theorem outS_no {S : List Int} {x : Rc} (h : inL S x.bird = false) : outS S x = x := by
  unfold outS
  rw [h]
  rfl
theorem outS_nil (x : Rc) : outS [] x = x := outS_no rfl
theorem uniq_out {l : List Rc} (h : Uniq l) (S : List Int) : Uniq (l.map (outS S)) := by
  unfold Uniq
  rw [List.pairwise_map]
  refine h.imp fun {x y} hxy => ?_
  rw [outS_bird, outS_bird]
  exact hxy
theorem runners_out {r r1 : Ra} {S : List Int} (h : r1.racers = r.racers.map (outS S)) (p : Int) : runners r1 p = (runners r p).map (outS S) := by
  unfold runners srt
  rw [h, List.filter_map, List.map_mergeSort (f := outS S) (r := fun x y : Rc => decide (x.bird ≤ y.bird)) (s := fun x y : Rc => decide (x.bird ≤ y.bird)) (fun x _ y _ => by rw [outS_bird, outS_bird])]
  have e : ((fun x : Rc => inL x.pools p) ∘ outS S) = fun x => inL x.pools p := funext fun x => by
    show inL (outS S x).pools p = _
    unfold outS
    split <;> rfl
  rw [e]
theorem out_takers {f f1 : Fu} {S T U : List Int} (hpo : f1.po = f.po) (hrs : f1.rs = f.rs.map (outS S)) (hU : ∀ b, inL U b = (inL T b || inL S b)) : takersL f1 T = takersL f U := by
  unfold takersL
  rw [hpo, hrs, List.filter_map]
  have e1 : f.rs.filter ((fun x => !skipB f.po.first T x) ∘ outS S) = f.rs.filter fun x => !skipB f.po.first U x := by
    refine List.filter_congr fun x _ => ?_
    show (!skipB f.po.first T (outS S x)) = !skipB f.po.first U x
    cases hs : inL S x.bird
    · rw [outS_no hs]
      unfold skipB
      rw [hU, hs, Bool.or_false]
    · have e2 : skipB f.po.first T (outS S x) = true := by
        unfold skipB outS
        rw [hs]
        simp
      have e3 : skipB f.po.first U x = true := by
        unfold skipB
        rw [hU, hs]
        simp
      rw [e2, e3]
  rw [e1]
  have e2 : (f.rs.filter fun x => !skipB f.po.first U x).map (outS S) = f.rs.filter fun x => !skipB f.po.first U x := by
    conv => rhs; rw [← List.map_id (f.rs.filter fun x => !skipB f.po.first U x)]
    refine List.map_congr_left fun x hxm => ?_
    obtain ⟨h1, h2⟩ := List.mem_filter.1 hxm
    refine outS_no ?_
    cases hs : inL S x.bird
    · rfl
    · have e3 : skipB f.po.first U x = true := by
        unfold skipB
        rw [hU, hs]
        simp
      rw [e3] at h2
      exact absurd h2 (by decide)
  rw [e2]
theorem out_order {f f1 : Fu} {S T U : List Int} (hpo : f1.po = f.po) (hrs : f1.rs = f.rs.map (outS S)) (hU : ∀ b, inL U b = (inL T b || inL S b)) : orderL f1 T = orderL f U := by
  unfold orderL
  rw [out_takers hpo hrs hU]
theorem out_places {f f1 : Fu} {S : List Int} (hpo : f1.po = f.po) (hrs : f1.rs = f.rs.map (outS S)) : placesL f1 = placesL f := by
  have hl : f1.rs.length = f.rs.length := by rw [hrs, List.length_map]
  unfold placesL nPl lefI kepI totI
  rw [hpo, hl]
theorem out_won {f f1 : Fu} {S T U : List Int} (hpo : f1.po = f.po) (hrs : f1.rs = f.rs.map (outS S)) (hU : ∀ b, inL U b = (inL T b || inL S b)) : wonL f1 T = wonL f U := by
  unfold wonL
  rw [out_order hpo hrs hU, out_places hpo hrs]
theorem out_first {f f1 : Fu} {S T U : List Int} (hpo : f1.po = f.po) (hrs : f1.rs = f.rs.map (outS S)) (hU : ∀ b, inL U b = (inL T b || inL S b)) : firstL f1 T = firstL f U := by
  unfold firstL
  rw [out_order hpo hrs hU]
theorem asc_iff (l : List Int) : ascB l = true ↔ l.Pairwise (· < ·) := by
  unfold ascB
  rw [allU_iff]
  constructor
  · intro h
    have h1 : ∀ i j, i < j → j < l.length → l.getD i 0 < l.getD j 0 := fun i j hij => by
      induction hij with
      | refl =>
        intro hj
        have := h (i + 1) hj
        simp only [Bool.or_eq_true, decide_eq_true_eq] at this
        rcases this with c | c
        · omega
        · exact c
      | step hm ih =>
        rename_i m
        intro hj
        have h2 := ih (by omega)
        have := h (m + 1) hj
        simp only [Bool.or_eq_true, decide_eq_true_eq] at this
        rcases this with c | c
        · omega
        · exact Int.lt_trans h2 c
    rw [List.pairwise_iff_getElem]
    intro i j hi hj hij
    have := h1 i j hij hj
    rw [List.getD_eq_getElem?_getD, List.getD_eq_getElem?_getD, List.getElem?_eq_getElem hi, List.getElem?_eq_getElem hj] at this
    exact this
  · intro h k hk
    simp only [Bool.or_eq_true, decide_eq_true_eq]
    by_cases c : k = 0
    · exact .inl c
    · right
      have := List.pairwise_iff_getElem.1 h (k - 1) k (by omega) hk (by omega)
      rw [List.getD_eq_getElem?_getD, List.getD_eq_getElem?_getD, List.getElem?_eq_getElem hk, List.getElem?_eq_getElem (show k - 1 < l.length by omega)]
      exact this
theorem race_out {o o1 : Ra} (ho : raceB o = true) {S : List Int} (hr : o1.racers = o.racers.map (outS S)) (hp : o1.pools = o.pools) (ht : o1.protests.Sublist o.protests) : raceB o1 = true := by
  obtain ⟨⟨a1, a2, a3⟩, a4, ⟨a5, a6⟩, a7, a8⟩ := (race_iff o).1 ho
  have hasc := asc_iff
  refine (race_iff o1).2 ⟨⟨by rw [hp]; exact a1, Nat.le_trans ht.length_le a2, (hasc _).2 (((hasc _).1 a3).sublist ht)⟩, by rw [hp]; exact a4, ⟨by rw [hr, List.length_map]; exact a5, by rw [hr]; exact uniq_out a6 S⟩, fun x hx => ?_, fun k hk => ?_⟩
  · rw [hr] at hx
    obtain ⟨y, hy, rfl⟩ := List.mem_map.1 hx
    have h7 := a7 y hy
    rw [hp]
    unfold outS
    split
    · unfold racerB at h7 ⊢
      simp only [Bool.and_eq_true] at h7 ⊢
      refine ⟨h7.1, h7.2.1, ?_, h7.2.2.2⟩
      rfl
    · exact h7
  · have hm : o1.protests.getD k 0 ∈ o.protests := by
      rw [List.getD_eq_getElem?_getD, List.getElem?_eq_getElem hk]
      exact ht.subset (List.getElem_mem hk)
    obtain ⟨j, hj, e0⟩ := List.mem_iff_getElem.1 hm
    have h8 := a8 j hj
    rw [List.getD_eq_getElem?_getD, List.getElem?_eq_getElem hj] at h8
    obtain ⟨y, hy, e⟩ := hasB_mem.1 h8
    refine hasB_mem.2 ⟨outS S y, ?_, by rw [outS_bird, e, ← e0]; rfl⟩
    rw [hr]
    exact List.mem_map.2 ⟨y, hy, rfl⟩
theorem out_has {r r1 : Ra} {S : List Int} (h : r1.racers = r.racers.map (outS S)) (p b : Int) : hasB (runners r1 p) b = hasB (runners r p) b := by
  rw [Bool.eq_iff_iff, hasB_mem, hasB_mem, runners_out h]
  constructor
  · rintro ⟨x, hx, e⟩
    obtain ⟨y, hy, rfl⟩ := List.mem_map.1 hx
    exact ⟨y, hy, by rw [outS_bird] at e; exact e⟩
  · rintro ⟨x, hx, e⟩
    exact ⟨_, List.mem_map.2 ⟨x, hx, rfl⟩, by rw [outS_bird]; exact e⟩
theorem out_q {o o1 : Ra} (ho : raceB o = true) {S : List Int} (hr : o1.racers = o.racers.map (outS S)) (hp : o1.pools = o.pools) (ht : o1.protests.Sublist o.protests) (p : Int) (bs : List Int) : qE o1 p bs = qE o p bs := by
  have ho1 := race_out ho hr hp ht
  unfold qE
  rw [if_pos ho, if_pos ho1, hp]
  have e : (fun i => hasB (runners o1 p) (bs.getD i 0)) = fun i => hasB (runners o p) (bs.getD i 0) := funext fun i => out_has hr p _
  rw [e]
/-! the cases -/
theorem stTo_sub (ps : List Int) (n : Nat) : ∀ k, k ≤ ps.length → (stTo ps n k).Sublist (ps.take k)
  | 0, _ => by simp [stTo]
  | k + 1, h => by
    have ih := stTo_sub ps n k (by omega)
    have e : ps.take (k + 1) = ps.take k ++ [ps.getD k 0] := by
      rw [List.take_add_one, List.getElem?_eq_getElem (show k < ps.length by omega), List.getD_eq_getElem?_getD, List.getElem?_eq_getElem (show k < ps.length by omega)]
      rfl
    unfold stTo
    rw [e]
    split
    · exact ih.append (List.Sublist.refl _)
    · exact ih.trans (List.sublist_append_left _ _)
theorem case_sub {ps T : List Int} (h : T ∈ caseL ps) : T.Sublist ps := by
  unfold caseL at h
  obtain ⟨n, _, rfl⟩ := List.mem_map.1 h
  have := stTo_sub ps n ps.length (Nat.le_refl _)
  rwa [List.take_length] at this
theorem bit_add {n j i : Nat} (h : i < j) : bitB (n + 2 ^ j) i = bitB n i := by
  unfold bitB
  have e : 2 ^ j = 2 ^ i * (2 * 2 ^ (j - i - 1)) := by
    rw [← Nat.mul_assoc, ← Nat.pow_succ, ← Nat.pow_add]
    congr 1
    omega
  rw [e, Nat.add_mul_div_left _ _ (Nat.two_pow_pos i), Nat.add_mul_mod_self_left]
theorem stTo_add (ps : List Int) {n j : Nat} : ∀ k, k ≤ j → stTo ps (n + 2 ^ j) k = stTo ps n k
  | 0, _ => rfl
  | k + 1, h => by
    unfold stTo
    rw [stTo_add ps k (by omega), bit_add (by omega)]
theorem bit_top {n j : Nat} (h : n < 2 ^ j) : bitB (n + 2 ^ j) j = true ∧ bitB n j = false := by
  unfold bitB
  have h1 : n / 2 ^ j = 0 := Nat.div_eq_of_lt h
  have h2 : (n + 2 ^ j) / 2 ^ j = 1 := by rw [Nat.add_div_right _ (Nat.two_pow_pos j), h1]
  rw [h1, h2]
  exact ⟨rfl, rfl⟩
theorem sub_stTo (ps : List Int) : ∀ k, k ≤ ps.length → ∀ T : List Int, T.Sublist (ps.take k) → ∃ n, n < 2 ^ k ∧ stTo ps n k = T
  | 0, _, T, h => by
    rw [List.take_zero, List.sublist_nil] at h
    exact ⟨0, by simp, h.symm⟩
  | k + 1, hk, T, h => by
    have e : ps.take (k + 1) = ps.take k ++ [ps.getD k 0] := by
      rw [List.take_add_one, List.getElem?_eq_getElem (show k < ps.length by omega), List.getD_eq_getElem?_getD, List.getElem?_eq_getElem (show k < ps.length by omega)]
      rfl
    rw [e] at h
    obtain ⟨T1, T2, rfl, h1, h2⟩ := List.sublist_append_iff.1 h
    obtain ⟨n, hn, he⟩ := sub_stTo ps k (by omega) T1 h1
    have hp : 2 ^ (k + 1) = 2 ^ k * 2 := Nat.pow_succ ..
    obtain ⟨b1, b2⟩ := bit_top hn
    have h2l := h2.length_le
    rw [List.length_singleton] at h2l
    match T2, h2, h2l with
    | [], _, _ =>
      refine ⟨n, by omega, ?_⟩
      unfold stTo
      rw [b2, he]
      simp
    | [x], h2, _ =>
      have hx : x = ps.getD k 0 := by
        have := h2.subset (List.mem_cons_self ..)
        simpa using this
      refine ⟨n + 2 ^ k, by omega, ?_⟩
      unfold stTo
      rw [b1, if_pos rfl, stTo_add ps k (Nat.le_refl _), he, hx]
theorem sub_case {ps T : List Int} (h : T.Sublist ps) : T ∈ caseL ps := by
  obtain ⟨n, hn, e⟩ := sub_stTo ps ps.length (Nat.le_refl _) T (by rw [List.take_length]; exact h)
  exact List.mem_map.2 ⟨n, List.mem_range.2 hn, e⟩
theorem case_pos (ps : List Int) : 0 < (caseL ps).length := by
  rw [caseL_len]
  exact Nat.two_pow_pos _
/-- a case behind a decision is one before it -/
theorem dec_case {ps qs T S : List Int} (hq : qs.Sublist ps) (hS : ∀ b, inL S b = true → b ∈ ps) (h : T ∈ caseL qs) : ∃ U ∈ caseL ps, ∀ b, inL U b = (inL T b || inL S b) := by
  have hT := (case_sub h).trans hq
  refine ⟨ps.filter fun b => inL T b || inL S b, sub_case List.filter_sublist, fun b => ?_⟩
  rw [Bool.eq_iff_iff, inL_iff, List.mem_filter]
  constructor
  · exact fun h => h.2
  · intro h
    refine ⟨?_, h⟩
    rw [Bool.or_eq_true] at h
    rcases h with h | h
    · exact hT.subset (inL_iff.1 h)
    · exact hS b h
theorem foldl_min {α : Type} (v : α → Int) : ∀ (l : List α) (a : Int), l.foldl (fun a st => min a (v st)) a ≤ a ∧ (∀ x ∈ l, l.foldl (fun a st => min a (v st)) a ≤ v x) ∧ (l.foldl (fun a st => min a (v st)) a = a ∨ ∃ x ∈ l, l.foldl (fun a st => min a (v st)) a = v x)
  | [], a => ⟨Int.le_refl _, fun x h => by simp at h, .inl rfl⟩
  | y :: l, a => by
    obtain ⟨h1, h2, h3⟩ := foldl_min v l (min a (v y))
    rw [List.foldl_cons]
    refine ⟨by omega, fun x hx => ?_, ?_⟩
    · rcases List.mem_cons.1 hx with rfl | hx
      · omega
      · exact h2 x hx
    · rcases h3 with h3 | ⟨x, hx, h3⟩
      · by_cases c : a ≤ v y
        · exact .inl (by rw [h3]; omega)
        · exact .inr ⟨y, List.mem_cons_self .., by rw [h3]; omega⟩
      · exact .inr ⟨x, List.mem_cons_of_mem _ hx, h3⟩
theorem foldl_max {α : Type} (v : α → Int) : ∀ (l : List α) (a : Int), a ≤ l.foldl (fun a st => max a (v st)) a ∧ (∀ x ∈ l, v x ≤ l.foldl (fun a st => max a (v st)) a) ∧ (l.foldl (fun a st => max a (v st)) a = a ∨ ∃ x ∈ l, l.foldl (fun a st => max a (v st)) a = v x)
  | [], a => ⟨Int.le_refl _, fun x h => by simp at h, .inl rfl⟩
  | y :: l, a => by
    obtain ⟨h1, h2, h3⟩ := foldl_max v l (max a (v y))
    rw [List.foldl_cons]
    refine ⟨by omega, fun x hx => ?_, ?_⟩
    · rcases List.mem_cons.1 hx with rfl | hx
      · omega
      · exact h2 x hx
    · rcases h3 with h3 | ⟨x, hx, h3⟩
      · by_cases c : v y ≤ a
        · exact .inl (by rw [h3]; omega)
        · exact .inr ⟨y, List.mem_cons_self .., by rw [h3]; omega⟩
      · exact .inr ⟨x, List.mem_cons_of_mem _ hx, h3⟩
theorem nil_case (ps : List Int) : [] ∈ caseL ps := sub_case (List.nil_sublist _)
theorem can_lo (f : Fu) (b : Int) (ps : List Int) : (∀ U ∈ caseL ps, canLo f b (caseL ps) ≤ wonAt (wonL f U) b) ∧ ∃ U ∈ caseL ps, canLo f b (caseL ps) = wonAt (wonL f U) b := by
  obtain ⟨_, h2, h3⟩ := foldl_min (fun st => wonAt (wonL f st) b) (caseL ps) (wonAt (wonL f []) b)
  refine ⟨h2, ?_⟩
  rcases h3 with h3 | h3
  · exact ⟨[], nil_case ps, h3⟩
  · exact h3
theorem can_hi (f : Fu) (b : Int) (ps : List Int) : (∀ U ∈ caseL ps, wonAt (wonL f U) b ≤ canHi f b (caseL ps)) ∧ ∃ U ∈ caseL ps, canHi f b (caseL ps) = wonAt (wonL f U) b := by
  obtain ⟨_, h2, h3⟩ := foldl_max (fun st => wonAt (wonL f st) b) (caseL ps) (wonAt (wonL f []) b)
  refine ⟨h2, ?_⟩
  rcases h3 with h3 | h3
  · exact ⟨[], nil_case ps, h3⟩
  · exact h3
theorem cnt_all {f : Fu} {sts : List (List Int)} {b : Int} : cntI f sts b = sts.length ↔ ∀ st ∈ sts, inL (firstL f st) b = true := by
  unfold cntI
  rw [Int.natCast_inj, List.length_filter_eq_length_iff]
theorem cnt_some {f : Fu} {sts : List (List Int)} {b : Int} : 0 < cntI f sts b ↔ ∃ st ∈ sts, inL (firstL f st) b = true := by
  unfold cntI
  constructor
  · intro h
    obtain ⟨st, h1⟩ := List.exists_mem_of_length_pos (show 0 < (sts.filter fun st => inL (firstL f st) b).length by omega)
    exact ⟨st, List.mem_filter.1 h1⟩
  · rintro ⟨st, h1, h2⟩
    have := List.length_pos_of_mem (List.mem_filter (p := fun st => inL (firstL f st) b).2 ⟨h1, h2⟩)
    omega
theorem orderP {f g : Fu} (hp : poP f.po = poP g.po) (hr : f.rs.map rcK = g.rs.map rcK) (st : List Int) : orderL f st = orderL g st := by
  have := orderK (KEq.of hp hr) st
  exact this
/-- the race behind some decisions: its cases are such of the race before them -/
theorem case_all {r o o1 : Ra} {p : Int} {S : List Int} (hr : raceB r = true) (her : o.racers.map rcP = r.racers.map rcP) (hps : o.pools.map poP = r.pools.map poP) (hpr : o.protests = r.protests)
    (h1 : o1.racers = o.racers.map (outS S)) (h2 : o1.pools = o.pools) (h3 : o1.protests.Sublist r.protests) :
    raceB o1 = true ∧ (∀ bs, qE o1 p bs = qE r p bs) ∧ ∀ T U, (∀ b, inL U b = (inL T b || inL S b)) → wonL (fuOf o1 p none 0) T = wonL (fuOf r p none 0) U ∧ orderL (fuOf o1 p none 0) T = orderL (fuOf r p none 0) U := by
  obtain ⟨hreq, ho⟩ := req_copy hr her hps hpr
  have h3' : o1.protests.Sublist o.protests := by rw [hpr]; exact h3
  have hpo : (fuOf o1 p none 0).po = (fuOf o p none 0).po := by
    show poolAt o1 p = poolAt o p
    unfold poolAt
    rw [h2]
  have hrs : (fuOf o1 p none 0).rs = (fuOf o p none 0).rs.map (outS S) := runners_out h1 p
  refine ⟨race_out ho h1 h2 h3', fun bs => (out_q ho h1 h2 h3' p bs).trans (qE_E hreq hr ho p bs), fun T U hU => ⟨?_, ?_⟩⟩
  · rw [out_won hpo hrs hU]
    exact wonP (hreq.po p) (K_of_Q (hreq.rs p)) U
  · rw [out_order hpo hrs hU]
    exact orderP (hreq.po p) (K_of_Q (hreq.rs p)) U
/-- what PrizesDecided says -/
theorem dec_all {r o o1 : Ra} {p b : Int} {S : List Int} (hr : raceB r = true) (her : o.racers.map rcP = r.racers.map rcP) (hps : o.pools.map poP = r.pools.map poP) (hpr : o.protests = r.protests) (hq : qE r p [b] = 0)
    (h1 : o1.racers = o.racers.map (outS S)) (h2 : o1.pools = o.pools) (h3 : o1.protests.Sublist r.protests) (hS : ∀ c, inL S c = true → c ∈ r.protests) :
    (raceB o1 = true ∧ qE o1 p [b] = 0 ∧ qE o1 p [] = 0) ∧ (canT r p b).1 ≤ (canT o1 p b).1 ∧ (canT o1 p b).2.1 ≤ (canT r p b).2.1 ∧ (canT o1 p b).1 ≤ (canT o1 p b).2.1 ∧ (canT r p b).2.2 = 0 ∧ (canT o1 p b).2.2 = 0 ∧
      ∀ SS MM S1 M1, FiOk (fuOf r p none 0) (caseL r.protests) SS MM → FiOk (fuOf o1 p none 0) (caseL o1.protests) S1 M1 → ∀ c ∈ SS, inL S1 c = true := by
  obtain ⟨hB, hQ, hW⟩ := case_all (p := p) hr her hps hpr h1 h2 h3
  have hq1 : qE o1 p [b] = 0 := (hQ [b]).trans hq
  have hq0 : qE r p [] = 0 := by
    unfold qE
    rw [if_pos (qE_parts hq).1, if_pos (qE_parts hq).2]
    rfl
  have e1 : canT r p b = (canLo (fuOf r p none 0) b (caseL r.protests), canHi (fuOf r p none 0) b (caseL r.protests), 0) := if_pos hq
  have e2 : canT o1 p b = (canLo (fuOf o1 p none 0) b (caseL o1.protests), canHi (fuOf o1 p none 0) b (caseL o1.protests), 0) := if_pos hq1
  rw [e1, e2]
  obtain ⟨l1, l2⟩ := can_lo (fuOf r p none 0) b r.protests
  obtain ⟨u1, u2⟩ := can_hi (fuOf r p none 0) b r.protests
  obtain ⟨l3, T, hT, l4⟩ := can_lo (fuOf o1 p none 0) b o1.protests
  obtain ⟨u3, V, hV, u4⟩ := can_hi (fuOf o1 p none 0) b o1.protests
  refine ⟨⟨hB, hq1, (hQ []).trans hq0⟩, ?_, ?_, ?_, rfl, rfl, fun SS MM S1 M1 k1 k2 c hc => ?_⟩
  · obtain ⟨U, hU, hUe⟩ := dec_case h3 hS hT
    show canLo _ _ _ ≤ canLo _ _ _
    rw [l4, (hW T U hUe).1]
    exact l1 U hU
  · obtain ⟨U, hU, hUe⟩ := dec_case h3 hS hV
    show canHi _ _ _ ≤ canHi _ _ _
    rw [u4, (hW V U hUe).1]
    exact u1 U hU
  · show canLo _ _ _ ≤ canHi _ _ _
    have a := l3 _ (nil_case o1.protests)
    have b := u3 _ (nil_case o1.protests)
    omega
  · rw [inL_iff, k2.sure]
    have h4 := cnt_all.1 ((k1.sure c).1 hc).2
    have h5 : cntI (fuOf o1 p none 0) (caseL o1.protests) c = (caseL o1.protests).length := cnt_all.2 fun T hT => by
      obtain ⟨U, hU, hUe⟩ := dec_case h3 hS hT
      have := h4 U hU
      unfold firstL at this ⊢
      rw [(hW T U hUe).2]
      exact this
    have := case_pos o1.protests
    omega
end Go.Proofs.YtnkmcoljijmgpaaGreat
