import Derived.Test.YtnkmcoljijmgpaaGreatDa
set_option linter.unusedSimpArgs false
set_option linter.unusedVariables false
namespace Go.Proofs.YtnkmcoljijmgpaaGreat
open Go.RowKit Go.Shelf Go.Sort Go.Maps
attribute [local go_sem] Oper.semAt_some
/-- a fund whose table lies nowhere -/
def nrm (f : Fu) : Fu := { f with po := { f.po with ta := none, tc := 0 } }
theorem prizes_nrm (f : Fu) : prizesL (nrm f) = prizesL f := rfl
theorem pot_nrm (f : Fu) : potV (nrm f) = potV f := rfl
theorem won_nrm (f : Fu) (st : List Int) : wonL (nrm f) st = wonL f st := rfl
theorem KEq.of {f g : Fu} (hp : poP f.po = poP g.po) (hr : f.rs.map rcK = g.rs.map rcK) : KEq (nrm f) (nrm g) := by
  refine ⟨?_, hr⟩
  obtain ⟨⟨a0, a1, a2, a3, a4, a5, a6, a7⟩, b, c, d, e, k, l⟩ := f
  obtain ⟨⟨x0, x1, x2, x3, x4, x5, x6, x7⟩, y, z, u, v, s, t⟩ := g
  unfold poP at hp
  simp only [Prod.mk.injEq] at hp
  obtain ⟨rfl, rfl, rfl, rfl, rfl, rfl⟩ := hp
  rfl
theorem prizesP {f g : Fu} (hp : poP f.po = poP g.po) (hr : f.rs.map rcK = g.rs.map rcK) : prizesL f = prizesL g := by
  rw [← prizes_nrm f, ← prizes_nrm g]
  exact prizesK (KEq.of hp hr)
theorem potP {f g : Fu} (hp : poP f.po = poP g.po) (hr : f.rs.map rcK = g.rs.map rcK) : potV f = potV g := by
  rw [← pot_nrm f, ← pot_nrm g]
  exact potK (KEq.of hp hr)
theorem wonP {f g : Fu} (hp : poP f.po = poP g.po) (hr : f.rs.map rcK = g.rs.map rcK) (st : List Int) : wonL f st = wonL g st := by
  rw [← won_nrm f, ← won_nrm g]
  exact wonK (KEq.of hp hr) st
theorem canP {f g : Fu} (hp : poP f.po = poP g.po) (hr : f.rs.map rcK = g.rs.map rcK) (b : Int) (sts : List (List Int)) : canLo f b sts = canLo g b sts ∧ canHi f b sts = canHi g b sts := by
  have e : (fun st => wonL f st) = fun st => wonL g st := funext fun st => wonP hp hr st
  unfold canLo canHi
  simp only [wonP hp hr]
  exact ⟨trivial, trivial⟩
/-- the same purses, in whatever order -/
def PSim (ps qs : List Pu) : Prop := (∀ x : Int, ps.any (fun p => p.owner == x) = qs.any fun p => p.owner == x) ∧ ∀ x, atP ps x = atP qs x
theorem find_map (q : Pu) (x : Int) : ∀ ps : List Pu, (ps.map fun p => if p.owner = q.owner then q else p).find? (fun p => p.owner == x) = if q.owner = x then (if ps.any (fun p => p.owner == x) = true then some q else none) else ps.find? fun p => p.owner == x
  | [] => by simp
  | a :: l => by
    have ih := find_map q x l
    rw [List.map_cons, List.find?_cons, ih, List.find?_cons, List.any_cons]
    by_cases h1 : a.owner = q.owner
    · rw [if_pos h1]
      by_cases h2 : q.owner = x
      · have h3 : (q.owner == x) = true := by simpa using h2
        have h4 : (a.owner == x) = true := by simp [h1, h2]
        rw [h3, h4, if_pos h2, Bool.true_or, if_pos rfl, if_pos h2]
      · have h3 : (q.owner == x) = false := by simpa using h2
        have h4 : (a.owner == x) = false := by simp [h1, h2]
        rw [h3, h4, if_neg h2]
        simp [h2]
    · rw [if_neg h1]
      by_cases h2 : q.owner = x
      · have h4 : (a.owner == x) = false := by
          simp only [beq_eq_false_iff_ne]
          exact fun e => h1 (e.trans h2.symm)
        rw [h4, if_pos h2]
        simp [h2]
      · rw [if_neg h2]
        cases h4 : (a.owner == x) <;> simp [h2]
theorem atP_put (ps : List Pu) (q : Pu) (x : Int) : atP (putP ps q) x = if q.owner = x then q else atP ps x := by
  unfold atP putP
  by_cases h : ps.any (fun p => p.owner == q.owner) = true
  · rw [if_pos h, find_map]
    by_cases h2 : q.owner = x
    · subst h2
      rw [if_pos rfl, if_pos h, if_pos rfl]
    · rw [if_neg h2, if_neg h2]
  · rw [if_neg h, List.find?_append]
    have h' : ps.any (fun p => p.owner == q.owner) = false := by simpa using h
    by_cases h2 : q.owner = x
    · subst h2
      have h3 : ps.find? (fun p => p.owner == q.owner) = none := by
        rw [List.find?_eq_none]
        intro y hy
        have := List.any_eq_false.1 h' y hy
        exact this
      rw [h3, if_pos rfl]
      simp
    · rw [if_neg h2]
      have h3 : (q.owner == x) = false := by simpa using h2
      cases h4 : ps.find? (fun p => p.owner == x) <;> simp [h3]
theorem PSim.put {ps qs : List Pu} (h : PSim ps qs) (q : Pu) : PSim (putP ps q) (putP qs q) := ⟨fun x => by rw [putP_any, putP_any, h.1], fun x => by rw [atP_put, atP_put, h.2]⟩
theorem PSim.srt {ps qs : List Pu} (h : PSim ps qs) (hu : UniqP ps) (hv : UniqP qs) : srtP ps = srtP qs := by
  have at_mem : ∀ {l : List Pu}, UniqP l → ∀ p ∈ l, l.any (fun q => q.owner == p.owner) = true ∧ atP l p.owner = p := fun {l} hl p hp => by
    refine ⟨List.any_eq_true.2 ⟨p, hp, by simp⟩, ?_⟩
    unfold atP
    cases hf : l.find? fun q => q.owner == p.owner with
    | none => exact absurd (by simp) (List.find?_eq_none.1 hf p hp)
    | some q => exact uniqP_eq hl (List.mem_of_find?_eq_some hf) hp (by simpa using List.find?_some hf)
  have mem_at : ∀ {l : List Pu} (x : Int), l.any (fun q => q.owner == x) = true → atP l x ∈ l := fun {l} x hx => by
    unfold atP
    cases hf : l.find? fun q => q.owner == x with
    | none =>
      obtain ⟨q, hq, he⟩ := List.any_eq_true.1 hx
      exact absurd he (List.find?_eq_none.1 hf q hq)
    | some q => exact List.mem_of_find?_eq_some hf
  have nd : ∀ {l : List Pu}, UniqP l → l.Nodup := fun {l} hl => List.Pairwise.imp (fun {a b} hab e => hab (by rw [e])) hl
  have hp : ps.Perm qs := (List.perm_ext_iff_of_nodup (nd hu) (nd hv)).2 fun p => ⟨fun hp => by
    obtain ⟨h1, h2⟩ := at_mem hu p hp
    rw [h.1] at h1
    rw [h.2] at h2
    have := mem_at p.owner h1
    rwa [h2] at this, fun hp => by
    obtain ⟨h1, h2⟩ := at_mem hv p hp
    rw [← h.1] at h1
    rw [← h.2] at h2
    have := mem_at p.owner h1
    rwa [h2] at this⟩
  exact srtP_unique hv ((srtP_perm ps).trans hp) (srtP_pw ps)
theorem pu0_uniq (l : List Rc) : ∀ k, UniqP (pu0 l k)
  | 0 => List.Pairwise.nil
  | k + 1 => putP_uniq (pu0_uniq l k) _
theorem puIn_uniq (f : Fu) {acc : List Pu} (h : UniqP acc) : ∀ j, UniqP (puIn f acc j)
  | 0 => h
  | j + 1 => putP_uniq (puIn_uniq f h j) _
theorem puTo_uniq (r : Ra) : ∀ k, UniqP (puTo r k)
  | 0 => pu0_uniq _ _
  | k + 1 => puIn_uniq _ (puTo_uniq r k) _
theorem pu0_any (l : List Rc) (x : Int) : ∀ k, k ≤ l.length → (pu0 l k).any (fun p => p.owner == x) = ((l.take k).any fun y => y.owner == x) ∧ atP (pu0 l k) x = if ((l.take k).any fun y => y.owner == x) = true then ⟨x, 0, 0⟩ else ⟨0, 0, 0⟩
  | 0, _ => ⟨rfl, rfl⟩
  | k + 1, hk => by
    obtain ⟨h1, h2⟩ := pu0_any l x k (by omega)
    have e : l.take (k + 1) = l.take k ++ [l.getD k default] := by
      rw [List.take_add_one, List.getD_eq_getElem?_getD, List.getElem?_eq_getElem (by omega)]
      rfl
    unfold pu0
    rw [putP_any, atP_put, h1, h2, e, List.any_append]
    refine ⟨by simp, ?_⟩
    dsimp only
    by_cases h3 : (l.getD k default).owner = x
    · rw [if_pos h3, h3]
      have h4 : ([l.getD k default].any fun y => y.owner == x) = true := by simpa using h3
      rw [h4, Bool.or_true, if_pos rfl]
    · rw [if_neg h3]
      have h4 : ([l.getD k default].any fun y => y.owner == x) = false := by simpa using h3
      rw [h4, Bool.or_false]
theorem pu0_sim {l l' : List Rc} (h : ∀ x : Int, (l.any fun y => y.owner == x) = l'.any fun y => y.owner == x) : PSim (pu0 l l.length) (pu0 l' l'.length) := by
  refine ⟨fun x => ?_, fun x => ?_⟩
  · rw [(pu0_any l x _ (Nat.le_refl _)).1, (pu0_any l' x _ (Nat.le_refl _)).1, List.take_length, List.take_length, h]
  · rw [(pu0_any l x _ (Nat.le_refl _)).2, (pu0_any l' x _ (Nat.le_refl _)).2, List.take_length, List.take_length, h]
theorem puIn_sim {f g : Fu} (hp : poP f.po = poP g.po) (hr : f.rs.map rcQ = g.rs.map rcQ) {acc acc' : List Pu} (h : PSim acc acc') : ∀ j, PSim (puIn f acc j) (puIn g acc' j)
  | 0 => h
  | j + 1 => by
    have ih := puIn_sim hp hr h j
    have e1 := getQ hr j
    unfold rcQ at e1
    simp only [Prod.mk.injEq] at e1
    have e2 : f.po.stake = g.po.stake := congrArg Prod.fst hp
    unfold puIn
    rw [e1.2.1, e2, prizesP hp (K_of_Q hr), ih.2]
    exact ih.put _
/-- two races of the same pools, whose birds run for the same pools, with the same owners, ranks, days -/
structure REq (r o : Ra) : Prop where
  ps : o.pools.map poP = r.pools.map poP
  pr : o.protests = r.protests
  rs : ∀ p : Int, (runners o p).map rcQ = (runners r p).map rcQ
  ow : ∀ x : Int, (o.racers.any fun y => y.owner == x) = r.racers.any fun y => y.owner == x
theorem REq.po {r o : Ra} (h : REq r o) (p : Int) : poP (poolAt o p) = poP (poolAt r p) := by
  have e := congrArg (fun m => m[p.toNat]?) h.ps
  simp only [List.getElem?_map] at e
  unfold poolAt
  rw [List.getD_eq_getElem?_getD, List.getD_eq_getElem?_getD]
  cases h1 : o.pools[p.toNat]? <;> cases h2 : r.pools[p.toNat]? <;> rw [h1, h2] at e <;> simp at e ⊢
  exact e
theorem REq.len {r o : Ra} (h : REq r o) : o.pools.length = r.pools.length := by
  have e := congrArg List.length h.ps
  simpa using e
theorem puTo_sim {r o : Ra} (h : REq r o) : ∀ k, PSim (puTo o k) (puTo r k)
  | 0 => pu0_sim h.ow
  | k + 1 => by
    have e : (runners o k).length = (runners r k).length := by
      have := congrArg List.length (h.rs k)
      simpa using this
    unfold puTo
    rw [e]
    exact puIn_sim (h.po _) (h.rs _) (puTo_sim h k) _
theorem pursesE {r o : Ra} (h : REq r o) : pursesL o = pursesL r := by
  unfold pursesL
  rw [h.len]
  exact (puTo_sim h _).srt (puTo_uniq _ _) (puTo_uniq _ _)
theorem prizesE {r o : Ra} (h : REq r o) (p : Int) : prizesL (fuOf o p none 0) = prizesL (fuOf r p none 0) := prizesP (h.po p) (K_of_Q (h.rs p))
end Go.Proofs.YtnkmcoljijmgpaaGreat
set_option linter.unusedSimpArgs false
set_option linter.unusedVariables false
namespace Go.Proofs.YtnkmcoljijmgpaaGreat
open Go.RowKit Go.Shelf Go.Sort Go.Maps
attribute [local go_sem] Oper.semAt_some
theorem getD_setR {l : List Rc} {i j : Nat} {y : Rc} (hi : i < l.length) : (l.set i y).getD j default = if j = i then y else l.getD j default := by
  rw [List.getD_eq_getElem?_getD, List.getElem?_set]
  by_cases h : i = j
  · subst h
    rw [if_pos rfl, if_pos hi, if_pos rfl]
    rfl
  · rw [if_neg h, if_neg (fun e => h e.symm), List.getD_eq_getElem?_getD]
/-- a whole store at a place of a row of one's own -/
theorem row_put {W : World} {B c i : Nat} {a : Option Addr} {L : List Rc} (h : W.ownsRow B 60 5 (.slice a L.length c) L.length (rcV L)) (hi : i < L.length) : ∃ g cur, a = some ⟨g, 0, none⟩ ∧ B ≤ g ∧ Blk W g 60 cur ∧ i * 5 + 5 ≤ cur.size ∧ ∀ y : Rc, (W.setCells g (i * 5) (rcE y)).ownsRow B 60 5 (.slice a L.length c) L.length (rcV (L.set i y)) := by
  rcases h.2 with ⟨_, h0⟩ | ⟨g, cap, cur, he, hb, hg, h1, h2, h3, h4⟩
  · omega
  · injection he with e1 e2 e3
    subst e1 e3
    refine ⟨g, cur, rfl, hb, hg, by have : (i + 1) * 5 ≤ c * 5 := Nat.mul_le_mul_right 5 (by omega); omega, fun y => ?_⟩
    refine ⟨by rw [rcV_len, List.length_set], .inr ⟨g, _, _, rfl, hb, Blk.setMany _ _ _ _ hg, h1, h2, by rw [size_setMany]; exact h3, ?_⟩⟩
    apply List.ext_getElem?
    intro t
    by_cases ht : t < L.length * 5
    · have hs : t < cur.size := by have : L.length * 5 ≤ c * 5 := Nat.mul_le_mul_right 5 h1; omega
      rw [List.getElem?_take_of_lt ht, Array.getElem?_toList, many_get hs, rcE_len]
      have e2 := rcV_get (L.set i y) (i := t / 5) (r := t % 5) (by rw [List.length_set]; omega) (by omega)
      rw [show t / 5 * 5 + t % 5 = t by omega, getD_setR hi] at e2
      rw [e2]
      by_cases hc : i * 5 ≤ t ∧ t < i * 5 + 5
      · rw [if_pos hc, if_pos (by omega), show t - i * 5 = t % 5 by omega]
      · rw [if_neg hc, if_neg (by omega)]
        have e := rcV_get L (i := t / 5) (r := t % 5) (by omega) (by omega)
        rw [show t / 5 * 5 + t % 5 = t by omega] at e
        have h5 : (cur.toList.take (L.length * 5))[t]? = (rcV L)[t]? := by rw [h4]
        rw [List.getElem?_take_of_lt ht] at h5
        rw [← Array.getElem?_toList, h5, e]
    · rw [List.getElem?_take_eq_none (by omega), List.getElem?_eq_none (by rw [rcV_len, List.length_set]; omega)]
/-- the racers from place t on, and then those before it -/
def rot (l : List Rc) (t : Nat) : List Rc := (List.range l.length).map fun i => l.getD ((i + t) % l.length) default
/-- .. of which the first k have come in the place of c's -/
def mixed (c l : List Rc) (t k : Nat) : List Rc := (List.range l.length).map fun i => if i < k then l.getD ((i + t) % l.length) default else c.getD i default
theorem mixed_len (c l : List Rc) (t k : Nat) : (mixed c l t k).length = l.length := by simp [mixed]
theorem mixed_zero {c l : List Rc} (t : Nat) (h : c.length = l.length) : mixed c l t 0 = c := by
  apply List.ext_getElem?
  intro i
  unfold mixed
  rw [List.getElem?_map]
  by_cases hi : i < l.length
  · rw [List.getElem?_range hi]
    simp [List.getD_eq_getElem?_getD, show i < c.length by omega]
  · rw [List.getElem?_eq_none (by rw [List.length_range]; omega), List.getElem?_eq_none (by omega)]
    rfl
theorem mixed_all (c l : List Rc) (t : Nat) : mixed c l t l.length = rot l t := by
  unfold mixed rot
  apply List.map_congr_left
  intro i hi
  rw [if_pos (List.mem_range.1 hi)]
theorem mixed_succ (c l : List Rc) (t : Nat) {k : Nat} (hk : k < l.length) : (mixed c l t k).set k (l.getD ((k + t) % l.length) default) = mixed c l t (k + 1) := by
  apply List.ext_getElem?
  intro i
  rw [List.getElem?_set, mixed_len]
  unfold mixed
  rw [List.getElem?_map, List.getElem?_map]
  by_cases hi : i < l.length
  · rw [List.getElem?_range hi]
    by_cases h : k = i
    · subst h
      simp [hk]
    · rw [if_neg h]
      simp only [Option.map_some]
      by_cases h2 : i < k
      · rw [if_pos h2, if_pos (by omega)]
      · rw [if_neg h2, if_neg (by omega)]
  · rw [if_neg (by omega), List.getElem?_eq_none (by rw [List.length_range]; omega)]
    rfl
theorem rot_perm (l : List Rc) (t : Nat) : (rot l t).Perm l := by
  by_cases h0 : l.length = 0
  · obtain rfl := List.length_eq_zero_iff.1 h0
    exact List.Perm.refl _
  have hp : 0 < l.length := by omega
  have hm := Nat.mod_lt t hp
  have e : rot l t = l.drop (t % l.length) ++ l.take (t % l.length) := by
    apply List.ext_getElem?
    intro i
    unfold rot
    rw [List.getElem?_map]
    by_cases hi : i < l.length
    · rw [List.getElem?_range hi]
      have hlt : (i + t) % l.length < l.length := Nat.mod_lt _ hp
      have hmod : (i + t) % l.length = (i + t % l.length) % l.length := by rw [Nat.add_mod_mod]
      simp only [Option.map_some]
      rw [List.getD_eq_getElem?_getD, List.getElem?_eq_getElem hlt]
      by_cases hc : i < (l.drop (t % l.length)).length
      · rw [List.getElem?_append_left hc, List.getElem?_drop]
        rw [List.length_drop] at hc
        have : (i + t) % l.length = t % l.length + i := by rw [hmod, Nat.mod_eq_of_lt (by omega)]; omega
        rw [List.getElem?_eq_getElem (by omega)]
        simp [this]
      · rw [List.getElem?_append_right (by omega), List.length_drop]
        rw [List.length_drop] at hc
        have : (i + t) % l.length = i - (l.length - t % l.length) := by
          rw [hmod, Nat.mod_eq_sub_mod (by omega), Nat.mod_eq_of_lt (by omega)]
          omega
        rw [List.getElem?_take_of_lt (by omega), List.getElem?_eq_getElem (by omega)]
        simp [this]
    · rw [List.getElem?_eq_none (by rw [List.length_range]; omega), List.getElem?_eq_none (by rw [List.length_append, List.length_drop, List.length_take]; omega)]
      rfl
  rw [e]
  exact List.perm_append_comm.trans (by rw [List.take_append_drop])
theorem poolP {x y : Po} (h : poP x = poP y) : poolB x = poolB y := by
  obtain ⟨x0, x1, x2, x3, x4, x5, x6, x7⟩ := x
  obtain ⟨y0, y1, y2, y3, y4, y5, y6, y7⟩ := y
  unfold poP at h
  simp only [Prod.mk.injEq] at h
  obtain ⟨rfl, rfl, rfl, rfl, rfl, rfl⟩ := h
  rfl
theorem hasB_mem {l : List Rc} {b : Int} : hasB l b = true ↔ ∃ x ∈ l, x.bird = b := by
  rw [hasB_iff]
  constructor
  · rintro ⟨j, hj, e⟩
    refine ⟨_, List.getElem_mem hj, ?_⟩
    rw [List.getD_eq_getElem?_getD, List.getElem?_eq_getElem hj] at e
    exact e
  · rintro ⟨x, hx, e⟩
    obtain ⟨j, hj, rfl⟩ := List.mem_iff_getElem.1 hx
    refine ⟨j, hj, ?_⟩
    rw [List.getD_eq_getElem?_getD, List.getElem?_eq_getElem hj]
    exact e
theorem race_iff (r : Ra) : raceB r = true ↔ (r.pools.length ≤ 6 ∧ r.protests.length ≤ 4 ∧ ascB r.protests = true) ∧ (∀ x ∈ r.pools, poolB x = true) ∧ (r.racers.length ≤ 12 ∧ Uniq r.racers) ∧ (∀ x ∈ r.racers, racerB r.pools.length x = true) ∧ ∀ k, k < r.protests.length → hasB r.racers (r.protests.getD k 0) = true := by
  constructor
  · intro h
    have hu := uniq_of (race_parts h)
    have hr : ∀ x ∈ r.racers, racerB r.pools.length x = true := fun x hx => racer_parts h hx
    unfold raceB at h
    simp only [Bool.and_eq_true, decide_eq_true_eq] at h
    obtain ⟨h1, h2, _, h4, h5, h6⟩ := h
    refine ⟨⟨h1, h4, h5⟩, fun x hx => ?_, hu, hr, allU_iff.1 h6⟩
    obtain ⟨j, hj, rfl⟩ := List.mem_iff_getElem.1 hx
    have := allU_iff.1 h2 j hj
    rwa [List.getD_eq_getElem?_getD, List.getElem?_eq_getElem hj] at this
  · rintro ⟨⟨h1, h2, h3⟩, h4, ⟨h5, h6⟩, h7, h8⟩
    unfold raceB racersB
    rw [decide_eq_true h1, decide_eq_true h2, decide_eq_true h5, h3, allU_iff.2 h8]
    have a : allU (fun i => poolB (r.pools.getD i default)) r.pools.length = true := allU_iff.2 fun k hk => by
      rw [List.getD_eq_getElem?_getD, List.getElem?_eq_getElem hk]
      exact h4 _ (List.getElem_mem hk)
    have b : allU (fun i => !hasB (r.racers.take i) (r.racers.getD i default).bird && racerB r.pools.length (r.racers.getD i default)) r.racers.length = true := allU_iff.2 fun k hk => by
      rw [List.getD_eq_getElem?_getD, List.getElem?_eq_getElem hk]
      have c : hasB (r.racers.take k) r.racers[k].bird = false := by
        rw [← Bool.not_eq_true, hasB_mem]
        rintro ⟨x, hx, e⟩
        obtain ⟨j, hj, rfl⟩ := List.mem_iff_getElem.1 hx
        rw [List.length_take] at hj
        rw [List.getElem_take] at e
        exact List.pairwise_iff_getElem.1 h6 j k (by omega) hk (by omega) e
      show (!hasB (r.racers.take k) r.racers[k].bird && racerB r.pools.length r.racers[k]) = true
      rw [c, h7 _ (List.getElem_mem hk)]
      rfl
    rw [a, b]
    rfl
/-- a race with the racers in another order, of pools that say the same -/
theorem req_perm {r o : Ra} (hr : raceB r = true) (hp : o.racers.Perm r.racers) (hps : o.pools.map poP = r.pools.map poP) (hpr : o.protests = r.protests) : REq r o ∧ raceB o = true := by
  obtain ⟨⟨h1, h2, h3⟩, h4, ⟨h5, h6⟩, h7, h8⟩ := (race_iff r).1 hr
  have hl : o.pools.length = r.pools.length := by
    have e := congrArg List.length hps
    simpa using e
  have hu : Uniq o.racers := hp.symm.pairwise h6 (fun {a b} hab e => hab e.symm)
  have hR : ∀ p : Int, runners o p = runners r p := fun p => by
    unfold runners
    have hf : (o.racers.filter fun x => inL x.pools p).Perm (r.racers.filter fun x => inL x.pools p) := hp.filter _
    exact srt_unique (uniq_filter h6 _) ((srt_perm _).trans hf) (srt_pw _)
  refine ⟨⟨hps, hpr, fun p => by rw [hR], fun x => ?_⟩, (race_iff o).2 ⟨⟨by rw [hl]; exact h1, by rw [hpr]; exact h2, by rw [hpr]; exact h3⟩, fun x hx => ?_, ⟨by rw [hp.length_eq]; exact h5, hu⟩, fun x hx => by rw [hl]; exact h7 x (hp.mem_iff.1 hx), fun k hk => ?_⟩⟩
  · rw [Bool.eq_iff_iff, List.any_eq_true, List.any_eq_true]
    exact ⟨fun ⟨y, hy, e⟩ => ⟨y, hp.mem_iff.1 hy, e⟩, fun ⟨y, hy, e⟩ => ⟨y, hp.mem_iff.2 hy, e⟩⟩
  · have hm : poP x ∈ r.pools.map poP := by
      rw [← hps]
      exact List.mem_map.2 ⟨x, hx, rfl⟩
    obtain ⟨y, hy, e⟩ := List.mem_map.1 hm
    rw [← poolP e]
    exact h4 y hy
  · rw [hpr] at hk ⊢
    obtain ⟨y, hy, e⟩ := hasB_mem.1 (h8 k hk)
    exact hasB_mem.2 ⟨y, hp.mem_iff.2 hy, e⟩
end Go.Proofs.YtnkmcoljijmgpaaGreat
set_option linter.unusedSimpArgs false
set_option linter.unusedVariables false
namespace Go.Proofs.YtnkmcoljijmgpaaGreat
open Go.RowKit Go.Shelf Go.Sort Go.Maps
attribute [local go_sem] Oper.semAt_some
theorem wp_storeC {o : Oper} {a : Act} {w : World} {K : Act → World → Prop} {Q : Exit → Act → World → Prop} (g off T : Nat) (d s : Operand) (vs : List Value) {cs : Array Value} {t : TypeId} (ho : o.op = .store T d s) (hv : a.eval d = .pointer (some ⟨g, off, none⟩)) (hs : a.eval s = .agg vs.toArray) (hsz : ∀ w, (Go.sizeOf T).run Tryz.prog w = .ok vs.length w) (hB : Blk w g t cs) (hin : off + vs.length ≤ cs.size) (h1 : ∀ v ∈ vs, v.oneCell' = true)
    (hk : K (a.put o.dst undef) (w.setCells g off vs)) : Oper.wp Tryz.prog o a w K Q := by
  have hst := run_storeCells_cells (P := Tryz.prog) g off vs 0 w (fun j hj => by rw [Nat.add_zero]; exact blk_has hB (by omega)) (fun j hj => hB.frozen _) h1
  rw [Nat.add_zero] at hst
  unfold Oper.wp
  have he : (execOp a.eval o).run Tryz.prog w = .ok .skip (w.setCells g off vs) := by
    unfold execOp
    simp only [ho, hv, hs]
    have hz := hsz w
    go_simp
  rw [he]
  exact hk
theorem size60 (w : World) : (Go.sizeOf 60).run Tryz.prog w = .ok 5 w := by
  have h : (Tryz.prog.info? 60).map (fun i => i.size) = some 5 := by kernel_rfl
  unfold Go.sizeOf
  go_simp
  first | rfl | kernel_rfl
theorem Fr_setCells {R : Nat → Prop} {A : World} {g : Nat} (hg : R g) : ∀ (vs : List Value) (o : Nat) (B : World), Fr R A B → Fr R A (B.setCells g o vs)
  | [], _, _, h => h
  | v :: r, o, B, h => Fr_setCells hg r (o + 1) _ (h.s (p := ⟨g, o, none⟩) (.inl hg) v)
theorem own_Fr {R : Nat → Prop} {X Y : World} {b N z : Nat} {e : TypeId} {v : Value} {xs : List Value} (h : X.ownsRow b e z v N xs) (hF : Fr R X Y) (hne : ∀ g, v.ownBlock = some g → ¬ R g) : Y.ownsRow b e z v N xs := by
  refine ⟨h.1, ?_⟩
  rcases h.2 with hn | ⟨g', cap, cur, rfl, hb, hg, rest⟩
  · exact .inl hn
  · exact .inr ⟨g', cap, cur, rfl, hb, (hF.block g' (Array.getElem?_eq_some_iff.1 hg).1 (hne g' rfl)).trans hg, rest⟩
def canT (r : Ra) (p b : Int) : Int × Int × Int := if qE r p [b] = 0 then (canLo (fuOf r p none 0) b (caseL r.protests), canHi (fuOf r p none 0) b (caseL r.protests), 0) else (0, 0, qE r p [b])
theorem canC (r : Ra) (p b : Int) (w : World) (h : r.At w) : Calls Tryz.prog 25 #[.agg r.v, .int .i64 p, .int .i64 b] w fun e w' => G w w' ∧ e = .returned (.tuple #[.agg #[.int .i64 (canT r p b).1, .int .i64 (canT r p b).2.1], .int .i64 (canT r p b).2.2]) := by
  refine (Can_any r p b w h).mono ?_
  rintro e w' ⟨hG, ⟨h1, rfl⟩ | ⟨h1, rfl⟩⟩
  · unfold canT
    rw [if_neg h1]
    exact ⟨hG, rfl⟩
  · unfold canT
    rw [if_pos h1]
    exact ⟨hG, rfl⟩
theorem hasB_Q {l l' : List Rc} (h : l.map rcQ = l'.map rcQ) (b : Int) : hasB l b = hasB l' b := by
  have a : ∀ {l l' : List Rc}, l.map rcQ = l'.map rcQ → hasB l b = true → hasB l' b = true := fun {l l'} h hx => by
    obtain ⟨x, hx, e⟩ := hasB_mem.1 hx
    have hm : rcQ x ∈ l'.map rcQ := by
      rw [← h]
      exact List.mem_map.2 ⟨x, hx, rfl⟩
    obtain ⟨y, hy, e2⟩ := List.mem_map.1 hm
    refine hasB_mem.2 ⟨y, hy, ?_⟩
    have : y.bird = x.bird := congrArg Prod.fst e2
    rw [this, e]
  rw [Bool.eq_iff_iff]
  exact ⟨a h, a h.symm⟩
theorem qE_E {r o : Ra} (h : REq r o) (hr : raceB r = true) (ho : raceB o = true) (p : Int) (bs : List Int) : qE o p bs = qE r p bs := by
  unfold qE
  rw [if_pos hr, if_pos ho, h.len]
  have e : (fun i => hasB (runners o p) (bs.getD i 0)) = fun i => hasB (runners r p) (bs.getD i 0) := funext fun i => hasB_Q (h.rs p) _
  rw [e]
theorem canE {r o : Ra} (h : REq r o) (hr : raceB r = true) (ho : raceB o = true) (p b : Int) : canT o p b = canT r p b := by
  unfold canT
  rw [qE_E h hr ho, h.pr]
  have e := canP (f := fuOf o p none 0) (g := fuOf r p none 0) (h.po p) (K_of_Q (h.rs p)) b (caseL r.protests)
  rw [e.1, e.2]
theorem purC (r : Ra) (w : World) (h : r.At w) (hr : raceB r = true) : Calls Tryz.prog 19 #[.agg r.v] w fun e w' => G w w' ∧ ∃ a c, e = .returned (.tuple #[.slice a (pursesL r).length c, .int .i64 0]) ∧ RowE Pu.v 3 w' a (pursesL r) := by
  refine (Purses_any r w h).mono ?_
  rintro e w' ⟨hG, ⟨h1, _⟩ | ⟨_, v, rfl, ho⟩⟩
  · rw [hr] at h1
    cases h1
  · obtain ⟨a, c, rfl, hrow⟩ := own_rowE (v := Pu.v) Pu.vs ho
    exact ⟨hG, a, c, rfl, hrow⟩
theorem purses_le {r : Ra} (hr : raceB r = true) : (pursesL r).length ≤ 1000 := by
  unfold pursesL
  rw [srtP_len]
  have h1 := (puTo_pb hr r.pools.length (Nat.le_refl _)).2
  have h2 := ((race_iff r).1 hr).1.1
  omega
/-- the copy, with the racers in another order -/
theorem cp_at {W : World} {B : Nat} {r o : Ra} {L : List Rc} (hAT : r.At W) (hrr : W.ownsRow B 60 5 (.slice o.ra L.length o.rc) L.length (rcV L)) (hL : ∀ y ∈ L, y ∈ r.racers) (hlen : L.length = r.racers.length)
    (hpr : W.ownsRow B 42 6 (.slice o.pa o.pools.length o.pc) o.pools.length (cv Po.v o.pools)) (hpt : ∀ y ∈ o.pools, W.ownsRow B 3 1 (.slice y.ta y.table.length y.tc) y.table.length (iv y.table))
    (htr : W.ownsRow B 3 1 (.slice o.ta o.protests.length o.tc) o.protests.length (iv o.protests)) (hep : o.pools.map poP = r.pools.map poP) (het : o.protests = r.protests) :
    (⟨o.ra, o.rc, L, o.pa, o.pc, o.pools, o.ta, o.tc, o.protests⟩ : Ra).At W := by
  have hl : o.pools.length = r.pools.length := by
    have e := congrArg List.length hep
    simpa using e
  have hints : ∀ {a : Option Addr} {c : Nat} {l : List Int}, W.ownsRow B 3 1 (.slice a l.length c) l.length (iv l) → IntsAt W a l := fun {a c l} ho => by
    obtain ⟨a', c', e, hI⟩ := own_ints ho
    injection e with e1 _ _
    rw [e1]
    exact hI
  have hmem : ∀ {i : Nat}, i < L.length → L.getD i default ∈ L := fun {i} hi => by
    rw [List.getD_eq_getElem?_getD, List.getElem?_eq_getElem hi]
    exact List.getElem_mem hi
  have hmemP : ∀ {i : Nat}, i < o.pools.length → o.pools.getD i default ∈ o.pools := fun {i} hi => by
    rw [List.getD_eq_getElem?_getD, List.getElem?_eq_getElem hi]
    exact List.getElem_mem hi
  have hix : ∀ {y : Rc}, y ∈ r.racers → ∃ i, i < r.racers.length ∧ r.racers.getD i default = y := fun {y} hy => by
    obtain ⟨i, hi, rfl⟩ := List.mem_iff_getElem.1 hy
    refine ⟨i, hi, ?_⟩
    rw [List.getD_eq_getElem?_getD, List.getElem?_eq_getElem hi]
    rfl
  refine ⟨⟨(own_fn hrr).2, fun i hi => ?_⟩, ⟨?_, fun i hi => hints (hpt _ (hmemP hi))⟩, hints htr, by show L.length ≤ 1000; rw [hlen]; exact hAT.nr, own_cap hrr, own_cap htr, by show o.pools.length ≤ 1000; rw [hl]; exact hAT.np, by show o.protests.length ≤ 1000; rw [het]; exact hAT.nt, fun i hi => ?_, fun i hi => ?_⟩
  · obtain ⟨j, hj, e⟩ := hix (hL _ (hmem hi))
    have := hAT.rs.pools j hj
    rw [e] at this
    exact this
  · obtain ⟨a', c', e, hR⟩ := own_rowE (v := Po.v) (fun x => rfl) hpr
    injection e with e1 _ _
    show RowE Po.v 6 W o.pa o.pools
    rw [e1]
    exact hR
  · obtain ⟨j, hj, e⟩ := hix (hL _ (hmem hi))
    have := hAT.nq j hj
    rw [e] at this
    exact this
  · have e := congrArg (fun m => m[i]?) hep
    simp only [List.getElem?_map] at e
    have hi' : i < o.pools.length := hi
    have hi2 : i < r.pools.length := by omega
    have h2 := hAT.nb i hi2
    rw [List.getD_eq_getElem?_getD, List.getElem?_eq_getElem hi2] at h2
    show (o.pools.getD i default).table.length ≤ 1000
    rw [List.getD_eq_getElem?_getD, List.getElem?_eq_getElem hi']
    rw [List.getElem?_eq_getElem hi', List.getElem?_eq_getElem hi2] at e
    simp only [Option.map_some, Option.some.injEq] at e
    have e3 : (o.pools[i]).table = (r.pools[i]).table := congrArg (fun q => q.2.2.2.1) e
    show (o.pools[i]).table.length ≤ 1000
    rw [e3]
    exact h2
end Go.Proofs.YtnkmcoljijmgpaaGreat
