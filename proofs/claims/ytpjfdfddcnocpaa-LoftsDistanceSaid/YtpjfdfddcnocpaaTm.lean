import Derived.Test.YtpjfdfddcnocpaaTr
import Derived.Test.YtpjfdfddcnocpaaTe
set_option linter.unusedSimpArgs false
set_option linter.unusedVariables false
namespace Go.Proofs.Ytpjfdfddcnocpaa
open Go.RowKit

section
variable {north wrong : Int} {cols lofts : Nat} {east : List Int} {svs : List Sv} {l : List (Int × Int)}
theorem truth_nat (h : truthB north cols lofts wrong east svs l = true) :
    (∀ p ∈ natP l, p.1 < cols ∧ p.2 < east.length) ∧ (natP l).length = lofts ∧ l.length = lofts ∧ (wrongsOf north east svs (natP l) lofts : Int) ≤ wrong ∧
      ∀ k, k < lofts → ∃ x y : Nat, l.getD k (0, 0) = ((x : Int), (y : Int)) ∧ (natP l).getD k (0, 0) = (x, y) ∧ x < cols ∧ y < east.length := by
  unfold truthB at h
  simp only [Bool.and_eq_true, List.all_eq_true, beq_iff_eq, decide_eq_true_eq] at h
  obtain ⟨h1, h2, h3⟩ := h
  have hl : l.length = lofts := by omega
  rw [hl] at h3
  have hp : ∀ p ∈ l, 0 ≤ p.1 ∧ p.1 < cols ∧ 0 ≤ p.2 ∧ p.2 < east.length := fun p hp => by
    have := h1 p hp
    simp [isPlaceB, isInB] at this
    omega
  refine ⟨fun p hm => ?_, by unfold natP; simpa using hl, hl, h3, fun k hk => ?_⟩
  · unfold natP at hm
    obtain ⟨q, hq, rfl⟩ := List.mem_map.1 hm
    have := hp q hq
    simp only
    omega
  · have hk2 : k < l.length := by omega
    have hm := hp (l.getD k (0, 0)) (by simp [hk2])
    have hg := natP_get hk2
    generalize l.getD k (0, 0) = q at *
    obtain ⟨x, y⟩ := q
    simp only at hm hg
    refine ⟨x.toNat, y.toNat, ?_, hg, by omega, by omega⟩
    rw [Int.toNat_of_nonneg hm.1, Int.toNat_of_nonneg hm.2.2.1]

theorem settleL_len3 (rows : Nat → List Sp) (B : Nat) (hB : 1 ≤ B) : ∀ (ls : List Nat) (f : At) (sp : Int), (∀ l ∈ ls, (rows l).length ≤ B) → (settleL rows ls f sp).length ≤ B ^ ls.length
  | [], _, _, _ => by simp [settleL]
  | l :: ls, f, sp, h => by
    rw [settleL_cons, List.length_cons, Nat.pow_succ]
    have key : ∀ r : List Sp, (r.flatMap (stepL rows l ls f sp)).length ≤ r.length * B ^ ls.length := by
      intro r
      induction r with
      | nil => simp
      | cons s r ih =>
        rw [List.flatMap_cons, List.length_append, List.length_cons, Nat.add_mul, Nat.one_mul]
        have : (stepL rows l ls f sp s).length ≤ B ^ ls.length := by
          unfold stepL
          split
          · exact settleL_len3 rows B hB ls _ _ (fun x hx => h x (List.mem_cons_of_mem _ hx))
          · simp
        omega
    refine Nat.le_trans (key _) ?_
    rw [Nat.mul_comm]
    exact Nat.mul_le_mul_left _ (h l List.mem_cons_self)
theorem truths_len3 {ls : List Nat} {sp : Int} (hl : ls.length ≤ 3) (hc : cols ≤ 10) (hr : east.length ≤ 10) : (truthsOf (spotsOf north cols east svs) ls sp).length ≤ 1000000 := by
  refine Nat.le_trans (settleL_len3 _ 100 (by omega) _ _ _ (fun l _ => spotsOf_len north cols east svs l hc hr)) ?_
  have h := namesOf_len ls
  exact Nat.pow_le_pow_right (by omega) (show (namesOf ls).length ≤ 3 by omega)
theorem validB_chk {cols lofts : Int} (h : validB north cols east lofts svs wrong = true) : checkE north cols east lofts svs wrong = 0 := by
  unfold validB at h
  simp at h
  exact h.2
theorem loft_nat3 {a lofts : Int} (h : (decide (0 ≤ a) && decide (a < lofts)) = true) : ∃ n : Nat, a = n ∧ (n : Int) < lofts := by
  simp at h
  obtain ⟨n, rfl⟩ := Int.eq_ofNat_of_zero_le h.1
  exact ⟨n, rfl, h.2⟩

/-- the truth is among the answers -/
theorem truth_in (h : truthB north cols lofts wrong east svs l = true) {o a b xo yo xa ya xb yb : Nat} (ho : o < lofts) (ha : a < lofts) (hb : b < lofts)
    (eo : (natP l).getD o (0, 0) = (xo, yo)) (ea : (natP l).getD a (0, 0) = (xa, ya)) (eb : (natP l).getD b (0, 0) = (xb, yb)) :
    ¬ wrong < fewSum north cols east svs lofts ∧
    (((truthsOf (spotsOf north cols east svs) [a] (wrong - fewSum north cols east svs lofts)).map fun f => f a).any (isP xa ya) = true) ∧
    (loQ north east a b (truthsOf (spotsOf north cols east svs) [a, b] (wrong - fewSum north cols east svs lofts)) ≤ sqI north east xa ya xb yb ∧ sqI north east xa ya xb yb ≤ hiQ north east a b (truthsOf (spotsOf north cols east svs) [a, b] (wrong - fewSum north cols east svs lofts))) ∧
    (loQ north east o a (truthsOf (spotsOf north cols east svs) [o, a] (wrong - fewSum north cols east svs lofts)) ≤ sqI north east xo yo xa ya ∧ sqI north east xo yo xa ya ≤ hiQ north east o a (truthsOf (spotsOf north cols east svs) [o, a] (wrong - fewSum north cols east svs lofts))) ∧
    (nearV ((truthsOf (spotsOf north cols east svs) [o, a, b] (wrong - fewSum north cols east svs lofts)).map (cmpF north east o a b)) = cmpI (sqI north east xo yo xa ya) (sqI north east xo yo xb yb) ∨ nearV ((truthsOf (spotsOf north cols east svs) [o, a, b] (wrong - fewSum north cols east svs lofts)).map (cmpF north east o a b)) = 4) := by
  obtain ⟨hP, hl, _, hw, _⟩ := truth_nat h
  have hT := fun (ls : List Nat) (hls : ∀ x ∈ ls, x < lofts) => resF_truth (north := north) (svs := svs) hP hl hw hls
  have q : ∀ (ls : List Nat) (i j xi yi xj yj : Nat), i ∈ ls → j ∈ ls → (natP l).getD i (0, 0) = (xi, yi) → (natP l).getD j (0, 0) = (xj, yj) → q2 north east i j (resF ls (natP l)) = sqI north east xi yi xj yj := fun ls i j xi yi xj yj hi hj e1 e2 => by
    unfold q2
    rw [resF_of hi, resF_of hj, e1, e2]
  have h1 := hT [a] (by simp [ha])
  have h2 := hT [a, b] (by simp [ha, hb])
  have h3 := hT [o, a] (by simp [ho, ha])
  have h4 := hT [o, a, b] (by simp [ho, ha, hb])
  refine ⟨?_, ?_, ?_, ?_, ?_⟩
  · have := few_wrongs (north := north) (svs := svs) hP hl
    omega
  · refine List.any_eq_true.2 ⟨(xa, ya), List.mem_map.2 ⟨_, h1, ?_⟩, by simp [isP]⟩
    rw [resF_of (by simp), ea]
  · rw [← q [a, b] a b xa ya xb yb (by simp) (by simp) ea eb]
    exact ⟨loQ_at a b _ _ h2, hiQ_at a b _ _ h2⟩
  · rw [← q [o, a] o a xo yo xa ya (by simp) (by simp) eo ea]
    exact ⟨loQ_at o a _ _ h3, hiQ_at o a _ _ h3⟩
  · have e : cmpF north east o a b (resF [o, a, b] (natP l)) = cmpI (sqI north east xo yo xa ya) (sqI north east xo yo xb yb) := by
      unfold cmpF
      rw [q [o, a, b] o a xo yo xa ya (by simp) (by simp) eo ea, q [o, a, b] o b xo yo xb yb (by simp) (by simp) eo eb]
    rw [← e]
    exact nearV_mem (List.mem_map.2 ⟨_, h4, rfl⟩)
end
/-- the row of an answer as a list of numbers -/
theorem ints_own {W : World} {base n : Nat} {v : Value} {A : List Nat} (hn : n = A.length) (h : W.ownsRow base 3 1 v n (natV A)) : ∃ a c, v = .slice a (A.map fun n : Nat => (n : Int)).length c ∧ IntsAt W a (A.map fun n : Nat => (n : Int)) := by
  rcases h.2 with ⟨rfl, h0⟩ | ⟨g, cap, cur, rfl, _, hb, h1, _, hs, ht⟩
  · have : A = [] := List.eq_nil_of_length_eq_zero (by omega)
    subst this
    exact ⟨none, 0, rfl, .inl rfl⟩
  · refine ⟨some ⟨g, 0, none⟩, cap, by rw [hn]; simp, .inr ⟨g, 0, rfl, (Array.getElem?_eq_some_iff.1 hb).1, fun k hk => ?_⟩⟩
    have hk2 : k < A.length := by simpa using hk
    have hc : cur[k]? = some (.int .i64 (A[k] : Nat)) := by
      have h3 : (cur.toList.take (n * 1))[k]? = (natV A)[k]? := by rw [ht]
      rw [List.getElem?_take_of_lt (by omega)] at h3
      simpa [natV, hk2] using h3
    have hB : Blk W g 3 cur := hb
    rw [Nat.zero_add, hB.cell k, hc]
    simp [hk2]
theorem any_mem {A : List Nat} {a : Nat} : (A.map fun n : Nat => (n : Int)).any (· == (a : Int)) = decide (a ∈ A) := by
  induction A with
  | nil => simp
  | cons x A ih =>
    rw [List.map_cons, List.any_cons, ih]
    by_cases h : x = a
    · subst h; simp
    · have : ((x : Int) == (a : Int)) = false := by simp; omega
      rw [this]
      simp
      intro e
      omega
theorem ints_own4 {W : World} {base n : Nat} {v : Value} {A : List Nat} (hn : n = A.length) (h : W.ownsRow base 3 1 v n (natV A)) : ∃ (a : Option Addr) (c : Nat) (L : List Int), v = .slice a L.length c ∧ IntsAt W a L ∧ L.length = A.length ∧ ∀ x : Nat, L.any (· == (x : Int)) = decide (x ∈ A) := by
  obtain ⟨a, c, h1, h2⟩ := ints_own hn h
  exact ⟨a, c, _, h1, h2, by simp, fun x => any_mem⟩
end Go.Proofs.Ytpjfdfddcnocpaa
