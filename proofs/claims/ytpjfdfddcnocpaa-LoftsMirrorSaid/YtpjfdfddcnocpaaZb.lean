import Derived.Test.YtpjfdfddcnocpaaQd
set_option linter.unusedSimpArgs false
set_option linter.unusedVariables false
namespace Go.Proofs.Ytpjfdfddcnocpaa
open Go.RowKit

/-- a survey whose columns are numbered from the other end -/
def mir (last : Int) (s : Sv) : Sv := if s.kind = 1 then { s with xl := last - s.xh, xh := last - s.xl } else { s with ax := last - s.ax }
theorem mir_loft (last : Int) (s : Sv) : (mir last s).loft = s.loft := by unfold mir; split <;> rfl
theorem mir_kind (last : Int) (s : Sv) : (mir last s).kind = s.kind := by unfold mir; split <;> rfl
theorem mir_ok {cols lofts : Int} {rows : Nat} {s : Sv} (h : svOk cols rows lofts s = true) : svOk cols rows lofts (mir (cols - 1) s) = true := by
  unfold svOk validSurveyB at h ⊢
  rw [mir_loft, mir_kind]
  by_cases hk : s.kind = 1
  · rw [if_pos hk] at h ⊢
    unfold mir
    rw [if_pos hk]
    unfold isSpanB isInB at *
    simp only [Bool.and_eq_true, decide_eq_true_eq] at h ⊢
    obtain ⟨h1, ⟨h2, h3, h4⟩, hr⟩ := h
    exact ⟨h1, ⟨by omega, by omega, by omega⟩, hr⟩
  · rw [if_neg hk] at h ⊢
    unfold mir
    rw [if_neg hk]
    by_cases hk2 : s.kind = 2
    · rw [if_pos hk2] at h ⊢
      unfold isSpanB isPlaceB isInB at *
      simp only [Bool.and_eq_true, decide_eq_true_eq] at h ⊢
      obtain ⟨h1, hx, hy, ⟨⟨p1, p2⟩, hpy⟩, hd⟩ := h
      exact ⟨h1, hx, hy, ⟨⟨by omega, by omega⟩, hpy⟩, hd⟩
    · rw [if_neg hk2] at h ⊢
      exact h
theorem checkE_mir {north lofts wrong cols : Int} {east : List Int} {svs : List Sv} (hk : checkE north cols east lofts svs wrong = 0) : checkE north cols east lofts (svs.map (mir (cols - 1))) wrong = 0 := by
  obtain ⟨hv, hl2, hso⟩ := checkE_zero hk
  unfold checkE
  rw [if_neg (by rw [hv]; simp), if_neg (by rw [List.length_map]; omega), if_pos]
  rw [List.all_eq_true] at hso ⊢
  intro s hs
  obtain ⟨t, ht, rfl⟩ := List.mem_map.1 hs
  exact mir_ok (hso t ht)
theorem sqI_mir (north : Int) (east : List Int) (last ax ay bx bY : Int) : sqI north east (last - ax) ay (last - bx) bY = sqI north east ax ay bx bY := by
  unfold sqI
  have e : (last - ax) - (last - bx) = -(ax - bx) := by omega
  rw [e, Int.mul_neg, Int.neg_mul_neg]
theorem holds_mir (north : Int) (east : List Int) (last x y : Int) (s : Sv) : holdsB north east (mir last s) (last - x) y = holdsB north east s x y := by
  unfold holdsB
  rw [mir_kind]
  by_cases hk : s.kind = 1
  · rw [if_pos hk, if_pos hk]
    unfold mir
    rw [if_pos hk]
    unfold isInB
    congr 1
    rw [Bool.eq_iff_iff]
    simp only [Bool.and_eq_true, decide_eq_true_eq]
    omega
  · rw [if_neg hk, if_neg hk]
    unfold mir
    rw [if_neg hk]
    simp only
    rw [sqI_mir]
/-- a place, seen from the other end -/
def mp (cols : Nat) (p : Nat × Nat) : Nat × Nat := (cols - 1 - p.1, p.2)
theorem allP_iff {cols rows : Nat} {p : Nat × Nat} : p ∈ allP cols rows ↔ p.1 < cols ∧ p.2 < rows := by
  unfold allP rowP
  rw [List.mem_flatMap]
  constructor
  · rintro ⟨y, hy, hp⟩
    obtain ⟨x, hx, rfl⟩ := List.mem_map.1 hp
    simp at hx hy
    exact ⟨hx, hy⟩
  · rintro ⟨h1, h2⟩
    exact ⟨p.2, by simpa using h2, List.mem_map.2 ⟨p.1, by simpa using h1, rfl⟩⟩
theorem mp_mem {cols rows : Nat} {p : Nat × Nat} (h : p ∈ allP cols rows) : mp cols p ∈ allP cols rows := by
  rw [allP_iff] at h ⊢
  unfold mp
  exact ⟨by simp only; omega, h.2⟩
theorem mp_mp {cols rows : Nat} {p : Nat × Nat} (h : p ∈ allP cols rows) : mp cols (mp cols p) = p := by
  rw [allP_iff] at h
  unfold mp
  ext
  · simp only; omega
  · rfl
section
variable (north : Int) (cols : Nat) (east : List Int) (svs : List Sv)
theorem cost_mir {rows l : Nat} {p : Nat × Nat} (h : p ∈ allP cols rows) : cost north east (svs.map (mir ((cols : Int) - 1))) l (mp cols p) = cost north east svs l p := by
  rw [allP_iff] at h
  unfold cost wrongN
  rw [List.filter_map, List.length_map]
  congr 1
  refine List.filter_congr fun s _ => ?_
  unfold badB mp
  simp only [Function.comp]
  rw [mir_loft, show ((cols - 1 - p.1 : Nat) : Int) = (cols : Int) - 1 - p.1 by omega, holds_mir]
theorem low_mir {l : Nat} (hc : 1 ≤ cols) (hr : 1 ≤ east.length) : lowC north east (svs.map (mir ((cols : Int) - 1))) l (allP cols east.length) = lowC north east svs l (allP cols east.length) := by
  obtain ⟨h1, p, hp, e1⟩ := low_spec north cols east svs l hc hr
  obtain ⟨h2, q, hq, e2⟩ := low_spec north cols east (svs.map (mir ((cols : Int) - 1))) l hc hr
  have a := h2 (mp cols p) (mp_mem hp)
  rw [cost_mir north cols east svs hp] at a
  have b := h1 (mp cols q) (mp_mem hq)
  have c := cost_mir north cols east svs (l := l) (mp_mem hq)
  rw [mp_mp hq] at c
  omega
theorem few_mir {lofts : Nat} (hc : 1 ≤ cols) (hr : 1 ≤ east.length) : fewSum north cols east (svs.map (mir ((cols : Int) - 1))) lofts = fewSum north cols east svs lofts := by
  unfold fewSum
  exact sumR_congr lofts fun l _ => low_mir north cols east svs hc hr
/-- sums over all places, from either end -/
theorem sumR_rev (g : Nat → Nat) : ∀ n, ((List.range n).map fun x => g (n - 1 - x)).sum = ((List.range n).map g).sum := by
  have key : ∀ m k, ((List.range k).map fun x => g (m + k - 1 - x)).sum = ((List.range k).map fun x => g (m + x)).sum := by
    intro m k
    induction k generalizing m with
    | zero => rfl
    | succ k ih =>
      rw [sumR_succ, sumR_succ]
      have e : ((List.range k).map fun x => g (m + (k + 1) - 1 - x)) = ((List.range k).map fun x => g ((m + 1) + k - 1 - x)) := List.map_congr_left fun x _ => by congr 1; omega
      rw [e, ih (m + 1)]
      have e2 : ((List.range k).map fun x => g (m + 1 + x)).sum + g m = ((List.range k).map fun x => g (m + x)).sum + g (m + k) := by
        clear ih e
        induction k with
        | zero => simp
        | succ k ih2 =>
          rw [sumR_succ, sumR_succ]
          rw [show m + 1 + k = m + (k + 1) by omega]
          omega
      rw [show m + (k + 1) - 1 - k = m by omega]
      exact e2
  intro n
  have := key 0 n
  simpa using this
theorem sum_allP (g : Nat × Nat → Nat) (rows : Nat) : ((allP cols rows).map g).sum = ((List.range rows).map fun y => ((List.range cols).map fun x => g (x, y)).sum).sum := by
  unfold allP rowP
  rw [List.map_flatMap]
  generalize List.range rows = L
  induction L with
  | nil => rfl
  | cons y L ih =>
    rw [List.flatMap_cons, List.sum_append, ih, List.map_cons, List.sum_cons, List.map_map]
    rfl
theorem sum_mp (g : Nat × Nat → Nat) (rows : Nat) : ((allP cols rows).map fun p => g (mp cols p)).sum = ((allP cols rows).map g).sum := by
  rw [sum_allP, sum_allP]
  refine sumR_congr rows fun y _ => ?_
  exact sumR_rev (fun x => g (x, y)) cols
theorem sum_mir (F : Nat → Nat) (l rows : Nat) : ((allP cols rows).map fun p => F (cost north east (svs.map (mir ((cols : Int) - 1))) l p)).sum = ((allP cols rows).map fun p => F (cost north east svs l p)).sum := by
  rw [← sum_mp cols (fun p => F (cost north east (svs.map (mir ((cols : Int) - 1))) l p))]
  exact sum_congr _ fun p hp => by rw [cost_mir north cols east svs hp]
theorem cnt_mir (rows : Nat) : ∀ (k s : Nat), cntC (fun l => (allP cols rows).map (cost north east (svs.map (mir ((cols : Int) - 1))) l)) k s = cntC (fun l => (allP cols rows).map (cost north east svs l)) k s
  | 0, _ => rfl
  | k + 1, s => by
    unfold cntC
    rw [List.map_map, List.map_map]
    have ih := fun u => cnt_mir rows k u
    simp only [Function.comp_def, ih]
    exact sum_mir north cols east svs (fun c => if c ≤ s then cntC (fun l => (allP cols rows).map (cost north east svs l)) k (s - c) else 0) k rows
theorem many_mir {lofts : Nat} {wrong : Int} (hw : 0 ≤ wrong ∧ wrong ≤ 3) (hl : 1 ≤ lofts) : manyV north wrong cols lofts east (svs.map (mir ((cols : Int) - 1))) = manyV north wrong cols lofts east svs := by
  rw [manyV_eq hw hl, manyV_eq hw hl]
  exact cnt_mir north cols east svs east.length lofts _
theorem filter_sum {α : Type} (c : α → Bool) : ∀ L : List α, (L.filter c).length = (L.map fun p => if c p then 1 else 0).sum
  | [] => rfl
  | p :: L => by
    rw [List.filter_cons, List.map_cons, List.sum_cons, ← filter_sum c L]
    split <;> simp <;> omega
theorem places_mir {l : Nat} {sp : Int} (hc : 1 ≤ cols) (hr : 1 ≤ east.length) : (truthsOf (spotsOf north cols east (svs.map (mir ((cols : Int) - 1)))) [l] sp).length = (truthsOf (spotsOf north cols east svs) [l] sp).length := by
  have e : ∀ sv, (truthsOf (spotsOf north cols east sv) [l] sp).length = ((truthsOf (spotsOf north cols east sv) [l] sp).map fun f => f l).length := fun sv => by rw [List.length_map]
  rw [e, e, places_eq, places_eq, low_mir north cols east svs hc hr, filter_sum, filter_sum]
  exact sum_mir north cols east svs (fun c => if decide (((c - lowC north east svs l (allP cols east.length) : Nat) : Int) ≤ sp) then 1 else 0) l east.length
/-- a truth, seen from the other end -/
def mf (ls : List Nat) (f : At) : At := fun l => if l ∈ ls then mp cols (f l) else (0, 0)
theorem truth_mir {wrong : Int} {lofts : Nat} {ls : List Nat} (hc : 1 ≤ cols) (hr : 1 ≤ east.length) (hls : ∀ l ∈ ls, l < lofts) (hw : ¬ wrong < fewSum north cols east svs lofts) {f : At}
    (hf : f ∈ truthsOf (spotsOf north cols east svs) ls (wrong - fewSum north cols east svs lofts)) :
    mf cols ls f ∈ truthsOf (spotsOf north cols east (svs.map (mir ((cols : Int) - 1)))) ls (wrong - fewSum north cols east (svs.map (mir ((cols : Int) - 1))) lofts) := by
  rw [truth_iff north cols east svs hls hw] at hf
  rw [truth_iff north cols east _ hls (by rw [few_mir north cols east svs hc hr]; exact hw)]
  obtain ⟨h1, h2, h3⟩ := hf
  refine ⟨fun l hl => ?_, fun l hl => ?_, ?_⟩
  · unfold mf
    rw [if_pos hl]
    exact mp_mem (h1 l hl)
  · unfold mf
    rw [if_neg hl]
  · have e : totW north cols east (svs.map (mir ((cols : Int) - 1))) lofts (namesOf ls) (mf cols ls f) = totW north cols east svs lofts (namesOf ls) f := by
      unfold totW
      refine sumR_congr lofts fun l _ => ?_
      by_cases hl : l ∈ namesOf ls
      · rw [if_pos hl, if_pos hl]
        unfold mf
        rw [if_pos (namesOf_mem hl)]
        exact cost_mir north cols east svs (h1 l (namesOf_mem hl))
      · rw [if_neg hl, if_neg hl]
        exact low_mir north cols east svs hc hr
    rw [e]
    exact h3
theorem mir_mir (last : Int) (s : Sv) : mir last (mir last s) = s := by
  unfold mir
  by_cases hk : s.kind = 1
  · rw [if_pos hk]
    simp only
    rw [if_pos hk]
    cases s
    simp only [Sv.mk.injEq]
    simp at *
    omega
  · rw [if_neg hk]
    simp only
    rw [if_neg hk]
    cases s
    simp only [Sv.mk.injEq]
    simp at *
    omega
theorem map_mir_mir (last : Int) : (svs.map (mir last)).map (mir last) = svs := by
  rw [List.map_map]
  conv => rhs; rw [← List.map_id svs]
  exact List.map_congr_left fun s _ => mir_mir last s
theorem q2_mir {a b : Nat} {ls : List Nat} (ha : a ∈ ls) (hb : b ∈ ls) {f : At} (h1 : (f a).1 < cols) (h2 : (f b).1 < cols) : q2 north east a b (mf cols ls f) = q2 north east a b f := by
  unfold q2 mf
  rw [if_pos ha, if_pos hb]
  unfold mp
  simp only
  rw [show ((cols - 1 - (f a).1 : Nat) : Int) = (cols : Int) - 1 - (f a).1 by omega, show ((cols - 1 - (f b).1 : Nat) : Int) = (cols : Int) - 1 - (f b).1 by omega, sqI_mir]
end
theorem loQ_of {north : Int} {east : List Int} {a b : Nat} {L L' : List At} (h : ∀ f ∈ L, ∃ g ∈ L', q2 north east a b g = q2 north east a b f) : loQ north east a b L' ≤ loQ north east a b L := by
  have top : ∀ (L : List At) (m : Int), L.foldl (fun m f => min m (q2 north east a b f)) m ≤ m := by
    intro L
    induction L with
    | nil => intro m; exact Int.le_refl _
    | cons f L ih => intro m; rw [List.foldl_cons]; have := ih (min m (q2 north east a b f)); omega
  unfold loQ
  rcases loQ_end north east a b L 9223372036854775807 with ⟨f, hf, e⟩ | e
  · obtain ⟨g, hg, e2⟩ := h f hf
    rw [e, ← e2]
    exact loQ_le north east a b L' _ g hg
  · rw [e]
    exact top L' _
theorem hiQ_of {north : Int} {east : List Int} {a b : Nat} {L L' : List At} (h : ∀ f ∈ L, ∃ g ∈ L', q2 north east a b g = q2 north east a b f) : hiQ north east a b L ≤ hiQ north east a b L' := by
  unfold hiQ
  rcases hiQ_end north east a b L 0 with ⟨f, hf, e⟩ | e
  · obtain ⟨g, hg, e2⟩ := h f hf
    rw [e, ← e2]
    exact (hiQ_ge north east a b L' 0).2 g hg
  · rw [e]
    exact (hiQ_ge north east a b L' 0).1
theorem nearV_of {l l' : List Int} (hne : l ≠ []) (hne' : l' ≠ []) (h : ∀ x, x ∈ l ↔ x ∈ l') : nearV l = nearV l' := by
  by_cases hs : ∃ x ∈ l, ∃ y ∈ l, x ≠ y
  · obtain ⟨x, hx, y, hy, hxy⟩ := hs
    rw [nearV_two hx hy hxy, nearV_two ((h x).1 hx) ((h y).1 hy) hxy]
  · obtain ⟨k, hk⟩ := List.exists_mem_of_ne_nil _ hne
    have all : ∀ x ∈ l, x = k := fun x hx => Classical.byContradiction fun hn => hs ⟨x, hx, k, hk, hn⟩
    rw [nearV_same hne all, nearV_same hne' (fun x hx => all x ((h x).2 hx))]
end Go.Proofs.Ytpjfdfddcnocpaa
