import Derived.Test.YtnkmcoljijmgpaaGreatFb
import Derived.Test.YtnkmcoljijmgpaaGreatEi
set_option linter.unusedSimpArgs false
set_option linter.unusedVariables false
namespace Go.Proofs.YtnkmcoljijmgpaaGreat
open Go.RowKit Go.Shelf Go.Sort Go.Maps
attribute [local go_sem] Oper.semAt_some
theorem inL_iff {l : List Int} {n : Int} : inL l n = true ↔ n ∈ l := by
  unfold inL anyU
  rw [List.any_eq_true]
  constructor
  · rintro ⟨i, hi, e⟩
    have hi' := List.mem_range.1 hi
    have e2 : n = l.getD i 0 := by simpa using e
    rw [e2, List.getD_eq_getElem?_getD, List.getElem?_eq_getElem hi']
    exact List.getElem_mem hi'
  · intro h
    obtain ⟨i, hi, rfl⟩ := List.mem_iff_getElem.1 h
    exact ⟨i, List.mem_range.2 hi, by simp [List.getD_eq_getElem?_getD, hi]⟩
/-- the first ones of a case -/
def firstL (f : Fu) (st : List Int) : List Int := (orderL f st).getD 0 []
/-- in how many of some cases a bird is among the first ones -/
def cntI (f : Fu) (sts : List (List Int)) (b : Int) : Int := ((sts.filter fun st => inL (firstL f st) b).length : Nat)
theorem cntI_snoc (f : Fu) (l : List (List Int)) (st : List Int) (b : Int) : cntI f (l ++ [st]) b = cntI f l b + (if inL (firstL f st) b = true then 1 else 0) := by
  unfold cntI
  rw [List.filter_append, List.length_append]
  by_cases h : inL (firstL f st) b = true
  · simp [h]
  · simp [h]
theorem cntI_bd (f : Fu) (l : List (List Int)) (b : Int) : 0 ≤ cntI f l b ∧ cntI f l b ≤ l.length := by
  unfold cntI
  have := List.length_filter_le (fun st => inL (firstL f st) b) l
  omega
theorem firstL_facts {f : Fu} {st : List Int} (hu : Uniq f.rs) : (firstL f st).Nodup ∧ (∀ b ∈ firstL f st, ∃ x ∈ f.rs, x.bird = b) ∧ (0 < (orderL f st).length → 0 < (firstL f st).length) ∧ (firstL f st).length ≤ f.rs.length := by
  have hflat : (orderL f st).flatten.Nodup := by
    rw [orderL_flat]
    unfold List.Nodup
    rw [List.pairwise_map]
    exact takers_uniq hu st
  have hmem : ∀ b ∈ (orderL f st).flatten, ∃ x ∈ f.rs, x.bird = b := fun b hb => by
    rw [orderL_flat] at hb
    obtain ⟨x, hx, e⟩ := List.mem_map.1 hb
    exact ⟨x, (takers_mem.1 hx).1, e⟩
  have hlen : (orderL f st).flatten.length ≤ f.rs.length := by
    rw [orderL_flat, List.length_map]
    exact takers_len f st
  have hne := orderL_ne f st
  unfold firstL
  cases ho : orderL f st with
  | nil => exact ⟨List.Pairwise.nil, fun b hb => by simp at hb, fun h => by simp at h, by simp⟩
  | cons g gs =>
    rw [ho] at hflat hmem hne hlen
    rw [List.flatten_cons] at hflat hmem hlen
    show g.Nodup ∧ (∀ b ∈ g, ∃ x ∈ f.rs, x.bird = b) ∧ (_ → 0 < g.length) ∧ g.length ≤ _
    refine ⟨(List.pairwise_append.1 hflat).1, fun b hb => hmem b (List.mem_append_left _ hb), fun _ => List.length_pos_iff.2 (hne g (List.mem_cons_self ..)), ?_⟩
    rw [List.length_append] at hlen
    omega
/-- the counts behind the cases pre, and the first k birds of another one -/
structure CtS (f : Fu) (pre : List (List Int)) (g : List Int) (k : Nat) (ps : List Pu) : Prop where
  uniq : UniqP ps
  cnt : ∀ b, (atP ps b).staked = cntI f pre b + (if inL (g.take k) b = true then 1 else 0)
  pos : ∀ q ∈ ps, 1 ≤ q.staked ∧ q.staked ≤ 1000
  own : ∀ q ∈ ps, ∃ x ∈ f.rs, x.bird = q.owner
theorem CtS.start (f : Fu) (g : List Int) : CtS f [] g 0 [] := ⟨List.Pairwise.nil, fun b => by rw [List.take_zero]; rfl, fun q h => by simp at h, fun q h => by simp at h⟩
theorem CtS.step {f : Fu} {pre : List (List Int)} {g : List Int} {k : Nat} {ps : List Pu} (h : CtS f pre g k ps) (hk : k < g.length) (hn : g.Nodup) (hm : ∀ b ∈ g, ∃ x ∈ f.rs, x.bird = b) (hp : pre.length ≤ 100) :
    CtS f pre g (k + 1) (putP ps ⟨g.getD k 0, (atP ps (g.getD k 0)).staked + 1, 0⟩) := by
  have hg : g.getD k 0 = g[k] := by simp [List.getD_eq_getElem?_getD, hk]
  have hnot : inL (g.take k) (g.getD k 0) = false := by
    rw [← Bool.not_eq_true, inL_iff, hg]
    intro hx
    obtain ⟨i, hi, e⟩ := List.mem_iff_getElem.1 hx
    rw [List.length_take] at hi
    rw [List.getElem_take] at e
    exact List.pairwise_iff_getElem.1 hn i k (by omega) hk (by omega) e
  have htk : g.take (k + 1) = g.take k ++ [g.getD k 0] := by
    rw [List.take_add_one, List.getElem?_eq_getElem hk, hg]
    rfl
  have hin : ∀ b, inL (g.take (k + 1)) b = true ↔ inL (g.take k) b = true ∨ b = g.getD k 0 := fun b => by
    rw [inL_iff, inL_iff, htk, List.mem_append, List.mem_singleton]
  have hc := h.cnt (g.getD k 0)
  rw [hnot] at hc
  have hbd := cntI_bd f pre (g.getD k 0)
  refine ⟨putP_uniq h.uniq _, fun b => ?_, fun q hq => ?_, fun q hq => ?_⟩
  · rw [atP_put]
    by_cases e : g.getD k 0 = b
    · subst e
      rw [if_pos rfl, if_pos ((hin _).2 (.inr rfl))]
      show (atP ps (g.getD k 0)).staked + 1 = _
      rw [hc]
      simp
    · rw [if_neg e, h.cnt b]
      by_cases e2 : inL (g.take k) b = true
      · rw [if_pos e2, if_pos ((hin b).2 (.inl e2))]
      · rw [if_neg e2, if_neg (fun e3 => by
          rcases (hin b).1 e3 with e4 | e4
          · exact e2 e4
          · exact e e4.symm)]
  · rcases putP_mem hq with rfl | ⟨hq, _⟩
    · show 1 ≤ (atP ps (g.getD k 0)).staked + 1 ∧ (atP ps (g.getD k 0)).staked + 1 ≤ 1000
      rw [hc]
      simp only [Bool.false_eq_true, if_false]
      omega
    · exact h.pos q hq
  · rcases putP_mem hq with rfl | ⟨hq, _⟩
    · exact hm _ (by rw [show (⟨g.getD k 0, (atP ps (g.getD k 0)).staked + 1, 0⟩ : Pu).owner = g.getD k 0 from rfl, hg]; exact List.getElem_mem hk)
    · exact h.own q hq
theorem CtS.next {f : Fu} {pre : List (List Int)} {st : List Int} {ps : List Pu} (h : CtS f pre (firstL f st) (firstL f st).length ps) (g : List Int) : CtS f (pre ++ [st]) g 0 ps := by
  refine ⟨h.uniq, fun b => ?_, h.pos, h.own⟩
  rw [h.cnt b, List.take_length, cntI_snoc, List.take_zero]
  simp [inL, anyU]
theorem CtS.turn {f : Fu} {pre : List (List Int)} {g : List Int} {ps : List Pu} (h : CtS f pre g 0 ps) (g' : List Int) : CtS f pre g' 0 ps := ⟨h.uniq, fun b => by rw [h.cnt b, List.take_zero, List.take_zero], h.pos, h.own⟩
theorem len_sub : ∀ (l m : List Int), l.Nodup → (∀ x ∈ l, x ∈ m) → l.length ≤ m.length
  | [], _, _, _ => Nat.zero_le _
  | a :: l, m, hn, h => by
    have hn2 := List.nodup_cons.1 hn
    have ha := h a (List.mem_cons_self ..)
    have := len_sub l (m.erase a) hn2.2 (fun x hx => (List.mem_erase_of_ne (fun e => hn2.1 (by rw [← e]; exact hx))).2 (h x (List.mem_cons_of_mem _ hx)))
    rw [List.length_erase_of_mem ha] at this
    have h0 : 0 < m.length := List.length_pos_of_mem ha
    rw [List.length_cons]
    omega
theorem CtS.len {f : Fu} {pre : List (List Int)} {g : List Int} {k : Nat} {ps : List Pu} (h : CtS f pre g k ps) : ps.length ≤ f.rs.length := by
  have := len_sub (ps.map Pu.owner) (f.rs.map Rc.bird) (by unfold List.Nodup; rw [List.pairwise_map]; exact h.uniq) (fun x hx => by
    obtain ⟨q, hq, rfl⟩ := List.mem_map.1 hx
    obtain ⟨y, hy, e⟩ := h.own q hq
    exact List.mem_map.2 ⟨y, hy, e⟩)
  rwa [List.length_map, List.length_map] at this
def apart (v1 v2 : Value) : Prop := ∀ g, v1.ownBlock = some g → v2.ownBlock = some g → False
theorem within_grow {w2 WX w4 : World} {v1 v1' v2 : Value} {n1 n2 z : Nat} {xs1 xs2 : List Value} (hG : G w2 WX) (h1 : WX.ownsRow w2.heap.size 3 1 v1 n1 xs1) (h2 : WX.ownsRow w2.heap.size 3 1 v2 n2 xs2) (hap : apart v1 v2)
    (hg : WX.grownBy w4 v1.ownBlock) (hz : z = WX.heap.size) (hat : v1'.ownBlock = v1.ownBlock ∨ v1'.ownBlock = some z) :
    w4.ownsRow w2.heap.size 3 1 v2 n2 xs2 ∧ apart v1' v2 ∧ G w2 w4 := by
  refine ⟨h2.kept hg ?_, fun g e1 e2 => ?_, (Fr.grown (G.fr (R := fun _ => False) hG) hg (fun g e => .inr (own_base h1 e))).toG (fun _ _ h => h)⟩
  · cases hv : v2.ownBlock with
    | none => exact .inl rfl
    | some g => exact .inr (fun e => hap g e.symm hv)
  · rcases hat with e | e
    · exact hap g (e ▸ e1) e2
    · rw [e] at e1
      obtain rfl : z = g := by injection e1
      rcases h2.2 with ⟨rfl, _⟩ | ⟨g', cap, cur, rfl, _, hb, _⟩
      · cases e2
      · have h3 := (Array.getElem?_eq_some_iff.1 hb).1
        have e3 : g' = z := by injection e2
        omega
/-- what First says: S surely, M perhaps -/
structure FiOk (f : Fu) (sts : List (List Int)) (S M : List Int) : Prop where
  sure : ∀ b, b ∈ S ↔ 0 < cntI f sts b ∧ cntI f sts b = sts.length
  maybe : ∀ b, b ∈ M ↔ 0 < cntI f sts b ∧ cntI f sts b ≠ sts.length
  asS : S.Pairwise (· < ·)
  asM : M.Pairwise (· < ·)
  len : S.length + M.length ≤ f.rs.length
theorem filt_len (p : Int → Bool) : ∀ l : List Int, (l.filter p).length + (l.filter fun x => !p x).length = l.length
  | [] => rfl
  | a :: l => by
    have ih := filt_len p l
    cases h : p a
    · rw [List.filter_cons_of_neg (by simp [h]), List.filter_cons_of_pos (by simp [h]), List.length_cons, List.length_cons]
      omega
    · rw [List.filter_cons_of_pos h, List.filter_cons_of_neg (by simp [h]), List.length_cons, List.length_cons]
      omega
def ctP (ps : List Pu) (n : Int) (b : Int) : Bool := (atP ps b).staked == n
theorem CtS.fin {f : Fu} {pre : List (List Int)} {ps : List Pu} (h : CtS f pre [] 0 ps) : FiOk f pre ((sortL (ps.map Pu.owner)).filter (ctP ps pre.length)) ((sortL (ps.map Pu.owner)).filter fun b => !ctP ps pre.length b) := by
  have hc : ∀ b, (atP ps b).staked = cntI f pre b := fun b => by
    rw [h.cnt b]
    simp [inL, anyU]
  have hmem : ∀ b, b ∈ sortL (ps.map Pu.owner) ↔ 0 < cntI f pre b := fun b => by
    rw [(sortL_perm _).mem_iff, ← hc b]
    constructor
    · intro hb
      obtain ⟨q, hq, rfl⟩ := List.mem_map.1 hb
      unfold atP
      cases hf : ps.find? fun p => p.owner == q.owner with
      | none => exact absurd (List.find?_eq_none.1 hf q hq) (by simp)
      | some q' => exact Int.lt_of_lt_of_le (by decide) (h.pos q' (List.mem_of_find?_eq_some hf)).1
    · intro hb
      unfold atP at hb
      cases hf : ps.find? fun p => p.owner == b with
      | none => rw [hf] at hb; simp at hb
      | some q' => exact List.mem_map.2 ⟨q', List.mem_of_find?_eq_some hf, by simpa using List.find?_some hf⟩
  have hlt : (sortL (ps.map Pu.owner)).Pairwise (· < ·) := by
    have h1 := sortL_pw (ps.map Pu.owner)
    have h2 : (sortL (ps.map Pu.owner)).Nodup := (sortL_perm _).nodup_iff.2 (by unfold List.Nodup; rw [List.pairwise_map]; exact h.uniq)
    exact List.Pairwise.imp₂ (fun a b h k => by omega) h1 h2
  refine ⟨fun b => ?_, fun b => ?_, hlt.sublist List.filter_sublist, hlt.sublist List.filter_sublist, ?_⟩
  · rw [List.mem_filter, hmem b]
    unfold ctP
    rw [hc b]
    simp
  · rw [List.mem_filter, hmem b]
    unfold ctP
    rw [hc b]
    simp
  · rw [filt_len, sortL_len, List.length_map]
    exact h.len
theorem filt_take {l : List Int} {k : Nat} (p : Int → Bool) (h : k < l.length) : (l.take (k + 1)).filter p = if p (l.getD k 0) = true then (l.take k).filter p ++ [l.getD k 0] else (l.take k).filter p := by
  have hg : l.getD k 0 = l[k] := by simp [List.getD_eq_getElem?_getD, h]
  rw [List.take_add_one, List.getElem?_eq_getElem h, List.filter_append, hg]
  cases hp : p l[k] <;> simp [hp]
def FiPost (r : Ra) (p : Int) (w : World) (e : Ending) (w' : World) : Prop := G w w' ∧ ((qE r p [] ≠ 0 ∧ e = .returned (.tuple #[.slice none 0 0, .slice none 0 0, .int .i64 (qE r p [])])) ∨ (qE r p [] = 0 ∧ ∃ (v1 v2 : Value) (S M : List Int), e = .returned (.tuple #[v1, v2, .int .i64 0]) ∧ w'.ownsRow w.heap.size 3 1 v1 S.length (iv S) ∧ w'.ownsRow w.heap.size 3 1 v2 M.length (iv M) ∧ FiOk (fuOf r p none 0) (caseL r.protests) S M))
end Go.Proofs.YtnkmcoljijmgpaaGreat
